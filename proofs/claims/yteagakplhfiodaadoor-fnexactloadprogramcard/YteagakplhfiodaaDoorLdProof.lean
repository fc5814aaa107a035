import Derived.Test.YteagakplhfiodaaDoorThHeld
import Derived.Test.YteagakplhfiodaaDoorLdSpecC
import Derived.Test.YteagakplhfiodaaDoorLdImpl
import Derived.Test.YteagakplhfiodaaDoorPgEqB
import Derived.ChangeVars
import Derived.Test.YteagakplhfiodaaDoorCards
import Derived.Test.YteagakplhfiodaaDoorTie
import Derived.WalkKit
import Derived.ProofKit
import Derived.OpenShut
import Derived.WalkSmall
import Derived.Deep.DeepHandedRow
import Derived.Lib.LaidTab
import Derived.Stop.LaidErr
import Derived.MakeChecks
import Derived.Deep.DeepWitnessRowRef
import Derived.Stop.LaidTwo
namespace Go.Proofs.YteagakplhfiodaaDoor.ld
open Go.RowKit Go.Proofs.YteagakplhfiodaaDoor.bts Go.Proofs.YteagakplhfiodaaDoor.pg Go.Proofs.YteagakplhfiodaaDoor.chk Go.Proofs.YteagakplhfiodaaDoor.sv Go.Proofs.YteagakplhfiodaaDoor.th

theorem PL.own {w w' : World} {q : Pg} {c : Int} {e : Ending} (h : PL w q c e w') : ∃ ak ap ck cp M ut uc ud, e = .returned (.tuple #[.agg #[.slice ak q.consts.length ck, .slice ap q.protos.length cp], .int .i64 c]) ∧ th.Own w' w.heap.size M w'.heap.size ak ap ck cp q ut uc ud ∧ Below w.heap.size w w' ∧ KOk q.consts ∧ POk q.protos := by
  obtain ⟨ak, ap, mk, ck, mp, cp, rfl, ⟨M, ut, uc, ud, h1, h2, h3, h4, h5, rfl, rfl, ok, pk⟩, hb⟩ := h
  exact ⟨ak, ap, ck, cp, M, ut, uc, ud, rfl, ⟨h1, h2, h4, h3, ⟨fun b e => (h3.lt b e).2, fun j hj b e => ((h3.caps j hj).lt b e).2, fun j hj b e => ((h3.code j hj).lt b e).2⟩, h5⟩, hb, ok, pk⟩

set_option maxRecDepth 100000 in
set_option maxHeartbeats 4000000 in
theorem core (ao : Option Addr) (cap : Nat) (bs : List Int) (w : World) (e0 e1 : Addr) (hE : Es w e0 e1) (hr : Rd w ao bs) (hb : Bts bs) (hSh : Shp w) (hw0 : 2 < w.heap.size) :
    Calls Tryd.prog 3 #[.slice ao bs.length cap] w fun e w' => e = .returned (.bool true) ∧ Below w.heap.size w w' := by
  obtain ⟨n, hnn⟩ : ∃ n, n = bs.length := ⟨_, rfl⟩
  by_cases hn : 1048576 < n
  · rw [← hnn]
    clear hnn
    go_enter Tryd.func3, Tryd.ntmps3
    go_wp2_with fail
    go_ret
    exact ⟨rfl, Below.refl _ _⟩
  · have hn' : n ≤ 1048576 := by omega
    clear hn
    have HL : Hid (bs.length = n) := hnn.symm
    have toB : ∀ w', Below w.heap.size w w' → Calls Tryd.prog 5 #[.slice ao n cap] w' fun e w'' => e = .returned (.slice (some ⟨w'.heap.size, 0, none⟩) n n) ∧
        w''.ownsRow w'.heap.size 5 1 (.slice (some ⟨w'.heap.size, 0, none⟩) n n) n (bcells bs) ∧ Below w'.heap.size w' w'' := by
      intro w' hbw
      have := toByteS_any ao cap bs w' (hr.below hbw) (by omega)
      rw [← hnn] at this
      exact this
    obtain ⟨q, c, hA⟩ : ∃ (q : Pg) (c : Int), (Lo bs (some q) ∧ c = 0) ∨ (Lo bs none ∧ q = ⟨[], []⟩ ∧ c = 1) := by
      by_cases h : ∃ q, Lo bs (some q)
      · obtain ⟨q, h⟩ := h
        exact ⟨q, 0, .inl ⟨h, rfl⟩⟩
      · exact ⟨⟨[], []⟩, 1, .inr ⟨fun q h1 h2 => h ⟨q, h1, h2⟩, rfl, rfl⟩⟩
    have QS : Hid (sizePg q ≤ 1048576) := by
      rcases hA with ⟨h, _⟩ | ⟨_, rfl, _⟩
      · exact (lo_some (bb_of hb) (by omega) h).2.2.2
      · show sizePg ⟨[], []⟩ ≤ _
        decide
    have sp : ∀ W g, Rd W (some ⟨g, 0, none⟩) bs → Calls Tryd.prog 4 #[.slice (some ⟨g, 0, none⟩) n n] W (PL W q c) := by
      intro W g h
      have := specLoad_any (some ⟨g, 0, none⟩) n bs W h (bb_of hb) (by omega) q c hA
      rw [← hnn] at this
      exact this
    have im : ∀ W g, Below w.heap.size w W → Rd W (some ⟨g, 0, none⟩) bs → Calls Tryd.prog 6 #[.slice (some ⟨g, 0, none⟩) n n] W (PL W q c) := by
      intro W g hW h
      have := implLoad_any (some ⟨g, 0, none⟩) n bs W e0 e1 (hE.below hW) h (.inr ⟨g, 0, rfl, by omega⟩) (bb_of hb) (by omega) (hSh.below hW hw0) (by have := hW.size; omega) q c hA
      rw [← hnn] at this
      exact this
    have TB : Hid _ := toB
    have IM : Hid _ := im
    have SP : Hid _ := sp
    have EQQ : Hid (∀ W a b c d, RdKV W a q.consts → RdPV W b q.protos → RdKV W c q.consts → RdPV W d q.protos → Calls Tryd.prog 7 #[.agg #[a, b], .agg #[c, d]] W fun e w' => e = .returned (.bool true) ∧ Below W.heap.size W w') := fun W a b c d h1 h2 h3 h4 => eqProgram_same a b c d q W h1 h2 h3 h4 QS.out
    rw [← hnn]
    clear hnn toB im sp hr hb hA hE hSh hw0
    go_enter Tryd.func3, Tryd.ntmps3
    go_wp2_with fail
    refine (TB.out w (Below.refl _ _)).mono ?_
    rintro e w1 ⟨rfl, o1, b1⟩
    have C := SP.out w1 w.heap.size (Rd.owned o1 HL.out)
    clear o1
    go_wp2_with fail
    refine C.mono ?_
    intro e w2 hP2
    obtain ⟨sk, sp, ek, ep, _, _, _, _, rfl, hown2, b2, ok, pk⟩ := hP2.own
    clear C hP2
    have QK1 : Hid (KOk q.consts) := ok
    have QK2 : Hid (POk q.protos) := pk
    have HRK2 : Hid (RdKV w2 (.slice sk q.consts.length ek) q.consts ∧ RdPV w2 (.slice sp q.protos.length ep) q.protos) := ⟨hown2.rdK ok, hown2.rdP pk⟩
    have HB2 : Hid (Below w.heap.size w w2) := b1.trans (b2.mono b1.size)
    obtain ⟨W2, hW2⟩ : ∃ W2, W2 = w2.alloc (.cells #[.slice sk q.consts.length ek, .slice sp q.protos.length ep] 26) := ⟨_, rfl⟩
    have bW2 : Below w2.heap.size w2 W2 := by rw [hW2]; exact (Below.refl _ _).alloc (Nat.le_refl _) _
    have t0 : W2.cell? ⟨w2.heap.size, 0, none⟩ = some (.slice sk q.consts.length ek) := by rw [hW2]; exact cellNew rfl
    have t1 : W2.cell? ⟨w2.heap.size, 1, none⟩ = some (.slice sp q.protos.length ep) := by rw [hW2]; exact cellNew rfl
    have HBW2 : Hid (Below w.heap.size w W2) := HB2.out.trans (bW2.mono HB2.out.size)
    have HA : Hid (∀ W, Below W2.heap.size W2 W → W.cell? ⟨w2.heap.size, 0, none⟩ = some (.slice sk q.consts.length ek) ∧ W.cell? ⟨w2.heap.size, 1, none⟩ = some (.slice sp q.protos.length ep) ∧ RdKV W (.slice sk q.consts.length ek) q.consts ∧ RdPV W (.slice sp q.protos.length ep) q.protos ∧ Below w.heap.size w W) := fun W hW => ⟨cellB t0 hW, cellB t1 hW, (HRK2.out.1.below bW2).below hW, (HRK2.out.2.below bW2).below hW, HBW2.out.trans (hW.mono HBW2.out.size)⟩
    have HWX2 : Hid (W2 = w2.alloc (.cells #[.slice sk q.consts.length ek, .slice sp q.protos.length ep] 26)) := hW2
    clear ok pk hown2 b1 b2 hW2 t0 t1 bW2
    go_wp2_with fail
    rw [← HWX2.out]
    refine (TB.out W2 HBW2.out).mono ?_
    rintro e w3 ⟨rfl, oX, b3⟩
    have HX3 : Hid (w3.ownsRow W2.heap.size 5 1 (.slice (some ⟨W2.heap.size, 0, none⟩) n n) n (bcells bs)) := oX
    have HB3 : Hid (Below W2.heap.size W2 w3) := b3
    have hlt3 : W2.heap.size < w3.heap.size := (oX.lt _ rfl).2
    have C := IM.out w3 W2.heap.size (HBW2.out.trans (b3.mono HBW2.out.size)) (Rd.owned oX HL.out)
    clear oX b3
    go_wp2_with fail
    refine C.mono ?_
    intro e w4 hP4
    obtain ⟨ik, ip, dk, dp, M, ut, uc, ud, rfl, hown4, b4, _, _⟩ := hP4.own
    clear C hP4
    have HOW4 : Hid (th.Own w4 w3.heap.size M w4.heap.size ik ip dk dp q ut uc ud) := hown4
    have hs4 : w3.heap.size ≤ w4.heap.size := b4.size
    have HB4 : Hid (Below w3.heap.size w3 w4) := b4
    have H24 : Hid (Below W2.heap.size W2 w4) := HB3.out.trans (b4.mono HB3.out.size)
    clear hown4 b4
    obtain ⟨t0, t1, _, _, _⟩ := HA.out w4 H24.out
    obtain ⟨W4, hW4⟩ : ∃ W4, W4 = w4.alloc (.cells #[.slice ik q.consts.length dk, .slice ip q.protos.length dp] 26) := ⟨_, rfl⟩
    have bG : Below w4.heap.size w4 W4 := by rw [hW4]; exact (Below.refl _ _).alloc (Nat.le_refl _) _
    have g0 : W4.cell? ⟨w4.heap.size, 0, none⟩ = some (.slice ik q.consts.length dk) := by rw [hW4]; exact cellNew rfl
    have g1 : W4.cell? ⟨w4.heap.size, 1, none⟩ = some (.slice ip q.protos.length dp) := by rw [hW4]; exact cellNew rfl
    have hX4 : W4.heap.size = w4.heap.size + 1 := by rw [hW4]; simp
    have HBW4 : Hid (Below w3.heap.size w3 W4) := HB4.out.trans (bG.mono HB4.out.size)
    have HOWG : Hid (th.Own W4 w3.heap.size M w4.heap.size ik ip dk dp q ut uc ud) := HOW4.out.hold (fun b _ h2 => bG.block b h2)
    have HGC : Hid (∀ W, (∀ b, w3.heap.size ≤ b → b < W4.heap.size → W.heap[b]? = W4.heap[b]?) → W.cell? ⟨w4.heap.size, 0, none⟩ = some (.slice ik q.consts.length dk) ∧ W.cell? ⟨w4.heap.size, 1, none⟩ = some (.slice ip q.protos.length dp) ∧ th.Own W w3.heap.size M w4.heap.size ik ip dk dp q ut uc ud) := fun W hW => ⟨(World.cell?_of_block (a := ⟨w4.heap.size, 0, none⟩) (hW w4.heap.size (by omega) (by omega))).trans g0, (World.cell?_of_block (a := ⟨w4.heap.size, 1, none⟩) (hW w4.heap.size (by omega) (by omega))).trans g1, HOWG.out.hold (fun b h1 h2 => hW b h1 (by omega))⟩
    have t0G := cellOld (o := .cells #[.slice ik q.consts.length dk, .slice ip q.protos.length dp] 26) t0
    have t1G := cellOld (o := .cells #[.slice ik q.consts.length dk, .slice ip q.protos.length dp] 26) t1
    have HWX4 : Hid (W4 = w4.alloc (.cells #[.slice ik q.consts.length dk, .slice ip q.protos.length dp] 26)) := hW4
    have HRK4 : Hid (RdKV W4 (.slice sk q.consts.length ek) q.consts ∧ RdPV W4 (.slice sp q.protos.length ep) q.protos) := by
      obtain ⟨_, _, h1, h2, _⟩ := HA.out W4 (HB3.out.trans (HBW4.out.mono HB3.out.size))
      exact ⟨h1, h2⟩
    clear hW4 g0 g1 bG
    go_wp2_with fail
    rw [← HWX4.out]
    refine (EQQ.out W4 _ _ _ _ (HOWG.out.rdK QK1.out) (HOWG.out.rdP QK2.out) HRK4.out.1 HRK4.out.2).mono ?_
    rintro e w5 ⟨rfl, b5⟩
    have HX5 : Hid (Below w3.heap.size w3 w5) := HBW4.out.trans (b5.mono HBW4.out.size)
    have HG5 : Hid (∀ b, w3.heap.size ≤ b → b < W4.heap.size → w5.heap[b]? = W4.heap[b]?) := fun b _ h2 => b5.block b h2
    have hs5 : W4.heap.size ≤ w5.heap.size := b5.size
    clear b5 HRK4 HB4 HOW4 t0 t1 t0G t1G HBW4
    have C := TB.out w5 (HA.out w5 (HB3.out.trans (HX5.out.mono HB3.out.size))).2.2.2.2
    go_wp2_with fail
    refine C.mono ?_
    rintro e w6 ⟨rfl, o6, b6⟩
    clear C
    have HX6 : Hid (Below w3.heap.size w3 w6) := HX5.out.trans (b6.mono HX5.out.size)
    have C := eqByteS_at (some ⟨W2.heap.size, 0, none⟩) (some ⟨w5.heap.size, 0, none⟩) n n n bs w6 HL.out (Rd.owned (own_below HX3.out HX6.out hlt3) HL.out) (Rd.owned o6 HL.out) (by omega)
    have hs6 : w5.heap.size ≤ w6.heap.size := b6.size
    have HG6 : Hid (∀ b, w3.heap.size ≤ b → b < W4.heap.size → w6.heap[b]? = W4.heap[b]?) := fun b h1 h2 => (b6.block b (by omega)).trans (HG5.out b h1 h2)
    clear o6 b6
    go_wp2_with fail
    refine C.mono ?_
    rintro e w7 ⟨rfl, s7⟩
    clear C
    have HX7 : Hid (Below w3.heap.size w3 w7) := HX6.out.trans (s7.2 _)
    have HG7 : Hid (∀ b, w3.heap.size ≤ b → b < W4.heap.size → w7.heap[b]? = W4.heap[b]?) := fun b h1 h2 => by rw [s7.1]; exact HG6.out b h1 h2
    have hs7 : w7.heap.size = w6.heap.size := by rw [s7.1]
    have C := markByteS_own (.slice (some ⟨W2.heap.size, 0, none⟩) n n) n W2.heap.size (bcells bs) 1 (by omega) (by omega) w7 (own_below HX3.out HX7.out hlt3) (by omega)
    clear s7 HX6 HG6 HX5 HG5
    go_wp2_with fail
    refine C.mono ?_
    rintro e w8 ⟨rfl, oX8, g8⟩
    clear C oX8
    have HS8 : Hid (Below W2.heap.size W2 w8) := (HB3.out.trans (HX7.out.mono HB3.out.size)).grown g8 (by have := HX7.out.size; omega) (by intro k hk; cases hk; exact Nat.le_refl _)
    have HG8 : Hid (∀ b, w3.heap.size ≤ b → b < W4.heap.size → w8.heap[b]? = W4.heap[b]?) := fun b h1 h2 => (g8.block b (by omega) (fun e => by have h3 : b = W2.heap.size := (by first | exact Option.some.inj e | exact (Option.some.inj e).symm); omega)).trans (HG7.out b h1 h2)
    have hs8 : W4.heap.size ≤ w8.heap.size := by have := g8.size; omega
    clear g8 HX7 HG7
    obtain ⟨t0, t1, rK8, rP8, _⟩ := HA.out w8 HS8.out
    obtain ⟨g0, g1, ow8⟩ := HGC.out w8 HG8.out
    have C := EQQ.out w8 _ _ _ _ (ow8.rdK QK1.out) (ow8.rdP QK2.out) rK8 rP8
    clear rK8 rP8 ow8
    go_wp2_with fail
    refine C.mono ?_
    rintro e w9 ⟨rfl, b9⟩
    clear C
    have HS9 : Hid (Below W2.heap.size W2 w9) := HS8.out.trans (b9.mono HS8.out.size)
    have HG9 : Hid (∀ b, w3.heap.size ≤ b → b < W4.heap.size → w9.heap[b]? = W4.heap[b]?) := fun b h1 h2 => (b9.block b (by omega)).trans (HG8.out b h1 h2)
    have hs9 : w8.heap.size ≤ w9.heap.size := b9.size
    clear b9 t0 t1 g0 g1 HS8 HG8
    obtain ⟨g0, g1, ow9⟩ := HGC.out w9 HG9.out
    have CM := markProgram_ex q ik ip dk dp w3.heap.size M w4.heap.size ut uc ud w9 ow9 (by omega) QS.out
    clear ow9
    go_wp2_with fail
    refine CM.mono ?_
    rintro e w10 ⟨rfl, mk10, on10⟩
    clear CM
    have HS10 : Hid (Below W2.heap.size W2 w10) := HS9.out.trans (on10.below.mono HB3.out.size)
    have g0' : w10.cell? ⟨w4.heap.size, 0, none⟩ = some (.slice ik q.consts.length dk) := (World.cell?_of_block (a := ⟨w4.heap.size, 0, none⟩) (on10.far w4.heap.size (Nat.le_refl _) (by omega))).trans g0
    have g1' : w10.cell? ⟨w4.heap.size, 1, none⟩ = some (.slice ip q.protos.length dp) := (World.cell?_of_block (a := ⟨w4.heap.size, 1, none⟩) (on10.far w4.heap.size (Nat.le_refl _) (by omega))).trans g1
    have CH := heldProgram_ex q ik ip dk dp w3.heap.size M ut uc ud w10 mk10 QS.out
    generalize kn2 q = K2 at CH
    clear mk10 on10 g0 g1 HS9 HG9
    go_wp2_with fail
    refine CH.mono ?_
    rintro e w11 ⟨rfl, b11⟩
    clear CH g0' g1'
    have HS11 : Hid (Below W2.heap.size W2 w11) := HS10.out.trans (b11.mono HS10.out.size)
    clear b11 HS10
    have n2 : decide ((K2 : Int) < 0) = false := by simp
    have C := TB.out w11 (HA.out w11 HS11.out).2.2.2.2
    go_wp2_with fail
    refine C.mono ?_
    rintro e w12 ⟨rfl, o12, b12⟩
    clear C
    have HS12 : Hid (Below W2.heap.size W2 w12) := HS11.out.trans (b12.mono HS11.out.size)
    have C := IM.out w12 w11.heap.size (HA.out w12 HS12.out).2.2.2.2 (Rd.owned o12 HL.out)
    clear o12 b12
    go_wp2_with fail
    refine C.mono ?_
    intro e w13 hP13
    obtain ⟨jk, jp, fk, fp, M2, ut2, uc2, ud2, rfl, hown13, b13, _, _⟩ := hP13.own
    clear C hP13
    have HS13 : Hid (Below W2.heap.size W2 w13) := HS12.out.trans (b13.mono HS12.out.size)
    have bH := (Below.refl w13.heap.size w13).alloc (Nat.le_refl _) (.cells #[.slice jk q.consts.length fk, .slice jp q.protos.length fp] 26)
    have HSH : Hid (Below W2.heap.size W2 (w13.alloc (.cells #[.slice jk q.consts.length fk, .slice jp q.protos.length fp] 26))) := HS13.out.trans (bH.mono HS13.out.size)
    obtain ⟨t0, t1, _, _, _⟩ := HA.out w13 HS13.out
    obtain ⟨_, _, rKH, rPH, _⟩ := HA.out _ HSH.out
    have C := EQQ.out (w13.alloc (.cells #[.slice jk q.consts.length fk, .slice jp q.protos.length fp] 26)) _ _ _ _ ((hown13.rdK QK1.out).below bH) ((hown13.rdP QK2.out).below bH) rKH rPH
    have t0H := cellOld (o := .cells #[.slice jk q.consts.length fk, .slice jp q.protos.length fp] 26) t0
    have t1H := cellOld (o := .cells #[.slice jk q.consts.length fk, .slice jp q.protos.length fp] 26) t1
    clear rKH rPH hown13 b13 bH
    go_wp2_with fail
    refine C.mono ?_
    rintro e w14 ⟨rfl, b14⟩
    clear C
    have HS14 : Hid (Below W2.heap.size W2 w14) := HSH.out.trans (b14.mono HSH.out.size)
    clear b14 t0 t1 t0H t1H
    go_wp2_with fail
    go_returns
    exact ⟨rfl, (HA.out w14 HS14.out).2.2.2.2⟩
end Go.Proofs.YteagakplhfiodaaDoor.ld

namespace Go.Proofs.YteagakplhfiodaaDoor.fnExactLoadProgram
open Go.ChangeShapes Go.WideShapes Go.ChangeAt Go.RowKit Go.Proofs.YteagakplhfiodaaDoor.bts Go.Proofs.YteagakplhfiodaaDoor.pg Go.Proofs.YteagakplhfiodaaDoor.chk Go.Proofs.YteagakplhfiodaaDoor.ld

theorem own : ownKnob Tryd.prog.godebug = none := by kernel_rfl
theorem laidOut : laidOutB Tryd.prog = true := by kernel_rfl
theorem gTab : Tryd.prog.globalNamed "loop.example/s02245/impl.shapes" = some 2 := by kernel_rfl
theorem gTabType : (Tryd.prog.globals[2]?).map (·.type) = some 116 := by kernel_rfl
theorem cellsTab : Tryd.prog.cellsOf 116 = 112 := by kernel_rfl
theorem cellsShape : Tryd.prog.cellsOf 115 = 4 := by kernel_rfl
theorem cellsUse : Tryd.prog.cellsOf 113 = 1 := by kernel_rfl
theorem laidPlain (W : World) : laidMetH Tryd.prog Rows.fnExactLoadProgramRow.laid W = laidMet Tryd.prog Rows.fnExactLoadProgramRow.laid W := Go.MakeChecks.laidMetH_plain _ _ _ (by kernel_rfl)
theorem laidEq : (Rows.laid_loop_example_s02245_impl_shapes : DataW Unit) = .agg ((List.range 28).map fun op => .agg [.lit (.int .i64 (shA op)), .lit (.int .i64 (shB op)), .lit (.int .i64 (tk op)), .lit (.int .i64 (lv op))]) := by kernel_rfl

theorem int_at {W : World} {T : TypeId} {m : Nat} {v : Value} {y : DataW Unit × List MemPlace} {z : Int} (hu : Tryd.prog.underlying T = some (.int .i64)) (h : DataW.trod (fun _ => ()) Tryd.prog W 0 (fun _ => true) false m T [v] = some y) (e : y.1 = .lit (.int .i64 z)) : v = .int .i64 z := by
  obtain ⟨n, e1, e2, _⟩ := DataW.trod_int hu h
  simp only [List.cons.injEq, and_true] at e1
  subst e2
  simp only [DataW.lit.injEq, Lit.int.injEq, true_and] at e
  rw [e1, e]

set_option maxRecDepth 100000 in
theorem shape_at {W : World} {m : Nat} {cs : List Value} {pl : List MemPlace} {a b c d : Int} (h : DataW.trod (fun _ => ()) Tryd.prog W 0 (fun _ => true) false m 115 cs = some (.agg [.lit (.int .i64 a), .lit (.int .i64 b), .lit (.int .i64 c), .lit (.int .i64 d)], pl)) : cs = [.int .i64 a, .int .i64 b, .int .i64 c, .int .i64 d] := by
  obtain ⟨ys, m', _, hy, hl, hlen, hf⟩ := DataW.trod_struct Tryd.underlying115 h
  rw [cellsShape] at hl
  simp only [Prod.mk.injEq, DataW.agg.injEq] at hy
  match cs, hl with
  | [v0, v1, v2, v3], _ =>
    match ys, hlen with
    | [y0, y1, y2, y3], _ =>
      simp only [List.map_cons, List.map_nil, List.cons.injEq, and_true] at hy
      obtain ⟨⟨e0, e1, e2, e3⟩, _⟩ := hy
      rw [int_at Tryd.underlying113 (field (o := 0) (hf 0 _ rfl) cellsUse rfl) e0.symm, int_at Tryd.underlying113 (field (o := 1) (hf 1 _ rfl) cellsUse rfl) e1.symm, int_at Tryd.underlying3 (field (o := 2) (hf 2 _ rfl) cellsInt rfl) e2.symm, int_at Tryd.underlying3 (field (o := 3) (hf 3 _ rfl) cellsInt rfl) e3.symm]

theorem shapes {W : World} (h : laidMetH Tryd.prog Rows.fnExactLoadProgramRow.laid W) : Shp W := by
  rw [laidPlain] at h
  have h2 : laidMet Tryd.prog [("loop.example/s02245/impl.shapes", Rows.laid_loop_example_s02245_impl_shapes), ("loop.example/s02245/impl.errEnd", Rows.laid_loop_example_s02245_impl_errEnd), ("loop.example/s02245/impl.errForm", Rows.laid_loop_example_s02245_impl_errForm)] W := h
  rw [laidEq] at h2
  obtain ⟨ps, ⟨g', t', cs, fuel, p, q, hg', ht', hvar, hd, _, _⟩, _⟩ := h2
  obtain rfl := Option.some.inj (gTab.symm.trans hg')
  obtain rfl := Option.some.inj (gTabType.symm.trans ht')
  obtain ⟨xs, m, _, hx, hl, hlen, hel⟩ := DataW.trod_array Tryd.underlying116 hd
  rw [cellsTab] at hl
  simp only [Prod.mk.injEq, DataW.agg.injEq] at hx
  intro op ho
  have hE := hel op ho
  rw [cellsShape] at hE
  obtain ⟨y, hy⟩ : ∃ y, xs[op]? = some y := ⟨_, List.getElem?_eq_getElem (by omega)⟩
  have hv := congrArg (fun l => l[op]?) hx.1
  simp only [List.getElem?_map, hy, List.getElem?_range ho, Option.map_some, Option.some.injEq] at hv
  rw [hy] at hE
  obtain ⟨y1, y2⟩ := y
  simp only at hv
  subst hv
  have c4 := shape_at hE
  have ce : ∀ j, j < 4 → W.cell? ⟨2, op * 4 + j, none⟩ = ((cs.toList.drop (op * 4)).take 4)[j]? := by
    intro j hj
    rw [World.var?_cell gTab hvar (op * 4 + j), List.getElem?_take_of_lt hj, List.getElem?_drop, Array.getElem?_toList]
  rw [c4] at ce
  exact ⟨ce 0 (by omega), ce 1 (by omega), ce 2 (by omega), ce 3 (by omega)⟩

theorem cellsU : Tryd.prog.cellsOf 41 = 1 := by kernel_rfl
theorem gEnd : Tryd.prog.globalNamed "loop.example/s02245/impl.errEnd" = some 0 := by kernel_rfl
theorem gForm : Tryd.prog.globalNamed "loop.example/s02245/impl.errForm" = some 1 := by kernel_rfl
theorem gEndType : (Tryd.prog.globals[0]?).map (·.type) = some 54 := by kernel_rfl
theorem gFormType : (Tryd.prog.globals[1]?).map (·.type) = some 54 := by kernel_rfl
theorem cellsEs : Tryd.prog.cellsOf 166 = 1 := by kernel_rfl
theorem cellsStr : Tryd.prog.cellsOf 9 = 1 := by kernel_rfl
theorem star : "*" ++ "errors.errorString" = "*errors.errorString" := by decide
theorem rowEs (u : TypeId) (h : Tryd.prog.typeName? 3 u = some "*errors.errorString") : u = 142 :=
  typeName_ptr_named (nm := "errors.errorString") (by rw [star]; kernel_rfl) (by kernel_rfl) (by decide) u (by rw [star]; exact h)
/-- The two errors, as they are laid. -/
theorem sents {W : World} (h : laidMetH Tryd.prog Rows.fnExactLoadProgramRow.laid W) : ∃ a0 a1, Es W a0 a1 ∧ W.var? Tryd.prog "loop.example/s02245/impl.errEnd" = some #[.iface 142 (.pointer (some a0))] ∧ W.var? Tryd.prog "loop.example/s02245/impl.errForm" = some #[.iface 142 (.pointer (some a1))] := by
  rw [laidPlain] at h
  have h2 : laidMet Tryd.prog [("loop.example/s02245/impl.errEnd", Rows.laid_loop_example_s02245_impl_errEnd), ("loop.example/s02245/impl.errForm", Rows.laid_loop_example_s02245_impl_errForm)] W := h.tail
  obtain ⟨a0, a1, s0, s1, c0, c1, t0, t1, hv0, hv1, _, _, _, _, _, _, hne, hb0, hb1⟩ := laid_sentinels2 h2 gEnd gEndType gForm gFormType Tryd.underlying54 rowEs Tryd.underlying142 Tryd.underlying166 rfl rfl Tryd.underlying9 cellsEs cellsStr
  exact ⟨a0, a1, ⟨⟨by simpa using World.var?_cell gEnd hv0 0, by simpa using World.var?_cell gForm hv1 0⟩, hne, ⟨c0, t0, hb0⟩, c1, t1, hb1⟩, hv0, hv1⟩
theorem vars_cons {H : Type} {enc : TypeId × Value → H} {w : World} {sp : Nat → Bool} {n : String} {ns : List String} {gs : List (DataW H)} {ps : List MemPlace} (h : DataW.TrodVars enc Tryd.prog w sp (n :: ns) gs ps) :
    ∃ g t cs fuel d ds p q, gs = d :: ds ∧ Tryd.prog.globalNamed n = some g ∧ (Tryd.prog.globals[g]?).map (·.type) = some t ∧ w.var? Tryd.prog n = some cs ∧ DataW.trod enc Tryd.prog w 0 sp true fuel t cs.toList = some (d, p) ∧ DataW.TrodVars enc Tryd.prog w sp ns ds q ∧ ps = MemPlace.row ⟨g, 0, none⟩ cs.size ++ p ++ q := by
  cases gs with
  | nil => exact h.elim
  | cons d ds =>
    obtain ⟨g, t, cs, fuel, p, q, h1, h2, h3, h4, h5, h6⟩ := h
    exact ⟨g, t, cs, fuel, d, ds, p, q, rfl, h1, h2, h3, h4, h5, h6⟩
theorem held_of {H : Type} {enc : TypeId × Value → H} {W : World} {sp : Nat → Bool} {fuel : Nat} {t u : TypeId} {ms : Array (String × TypeId)} {x : Value} {d : DataW H} {p : List MemPlace} (ht : Tryd.prog.underlying t = some (.interface ms)) (h : DataW.trod enc Tryd.prog W 0 sp true fuel t [.iface u x] = some (d, p)) : d = tok enc (.iface u x) ∧ p = [] := by
  cases fuel with
  | zero => simp [DataW.trod] at h
  | succ n =>
    rw [trod_held ht (v := .iface u x) trivial n] at h
    simp only [Option.some.injEq, Prod.mk.injEq] at h
    exact ⟨h.1.symm, h.2.symm⟩

theorem walk (a0 : Option Addr) (len0 cap0 : Nat) (z0 : List Int) (w : World) (e0 e1 : Addr) (hE : Es w e0 e1) (hS : Shp w) (hw0 : 2 < w.heap.size) (w0 : IsRow .u8 w a0 len0 cap0 z0) :
    Calls Tryd.prog 3 #[.slice a0 len0 cap0] w fun e w' => e = .returned (.bool true) ∧ Below w.heap.size w w' := by
  obtain ⟨ys, rfl, hr, hb⟩ := isRow_rd w0
  exact core a0 cap0 ys w e0 e1 hE hr hb hS hw0

set_option maxRecDepth 100000 in
theorem contract (H : Type) (enc : TypeId × Value → H) (W : World) (base : Nat) (args : Array Value) (ds gs : List (DataW H)) (before : List MemPlace)
    (hval : ∀ (j : Nat) t v, Tryd.f3.params[j]? = some t → args[j]? = some v → Value.okWide Tryd.prog W .any base t v)
    (hW : DataW.Whole enc Tryd.prog Tryd.f3.params.toList Rows.fnExactLoadProgramSpec.vars false W args.toList ds gs before) (hL : laidMetH Tryd.prog Rows.fnExactLoadProgramRow.laid W) :
    Calls Tryd.prog 3 args W fun e W' => ∃ v, e = .returned v ∧ Rows.fnExactLoadProgramSpec.post enc Tryd.prog Tryd.f3 false true false false W args v W' := by
  have hW' := hW
  obtain ⟨p, q, hA0, hV0, rfl, hfz, hnd⟩ := hW
  have hA : DataW.TrodAll enc Tryd.prog W 0 (fun _ => true) true Tryd.f3.params.toList args.toList ds p := hA0
  have hV : DataW.TrodVars enc Tryd.prog W (fun _ => true) ["loop.example/s02245/impl.errEnd", "loop.example/s02245/impl.errForm", "loop.example/s02245/impl.shapes"] gs q := hV0
  rw [Tryd.params3] at hA hval
  obtain ⟨v0, vs0, d0, ds0, p0, q0, hargs, rfl, rfl, h0, r0⟩ := trodAll_cons hA
  obtain ⟨rfl, rfl, rfl⟩ := trodAll_nil r0
  obtain rfl : args = #[v0] := by cases args; simp_all
  obtain ⟨ga, ta, ca, fa, da, dsa, pa, qa, rfl, hga, hta, hva, hda, hVa, rfl⟩ := vars_cons hV
  obtain ⟨gb, tb, cb, fb, db, dsb, pb, qb, rfl, hgb, htb, hvb, hdb, hVb, rfl⟩ := vars_cons hVa
  obtain ⟨gc, tc, cc, fc, dc, dsc, pc, qc, rfl, hgc, htc, hvc, hdc, hVc, rfl⟩ := vars_cons hVb
  obtain ⟨rfl, rfl⟩ := trodVars_none hVc
  obtain rfl := Option.some.inj (gEnd.symm.trans hga)
  obtain rfl := Option.some.inj (gEndType.symm.trans hta)
  obtain rfl := Option.some.inj (gForm.symm.trans hgb)
  obtain rfl := Option.some.inj (gFormType.symm.trans htb)
  obtain rfl := Option.some.inj (gTab.symm.trans hgc)
  obtain rfl := Option.some.inj (gTabType.symm.trans htc)
  obtain ⟨e0, e1, hE, hv0, hv1⟩ := sents hL
  obtain rfl := Option.some.inj (hv0.symm.trans hva)
  obtain rfl := Option.some.inj (hv1.symm.trans hvb)
  obtain ⟨rfl, rfl⟩ := held_of Tryd.underlying54 hda
  obtain ⟨rfl, rfl⟩ := held_of Tryd.underlying54 hdb
  have hltv : ∀ x ∈ pc, x.block < W.heap.size := DataW.trod_lt fc _ _ _ hdc
  obtain ⟨a0, len0, cap0, rfl⟩ := okWide_slice Tryd.underlying22 (hval 0 22 v0 rfl rfl)
  have k0 := h0
  have lt0 : ∀ x ∈ p0, x.block < W.heap.size := by obtain ⟨m, hm⟩ := k0; exact DataW.trod_lt m _ _ _ hm
  obtain ⟨z0, w0⟩ : ∃ zs, IsRow .u8 W a0 len0 cap0 zs := by
    obtain ⟨fuel, hf⟩ := h0
    rcases open_ints Tryd.underlying22 Tryd.underlying5 (by kernel_rfl) hf with ⟨hcs, _⟩ | ⟨x, l, c, zs, hcs, _, hl, hm, hz, _, hcell, hwz⟩
    · simp [Value.cells] at hcs
      obtain ⟨rfl, rfl, rfl⟩ := hcs
      exact ⟨[], .inl ⟨rfl, rfl, rfl, rfl⟩⟩
    · simp [Value.cells] at hcs
      obtain ⟨rfl, rfl, rfl⟩ := hcs
      exact ⟨zs, .inr ⟨_, rfl, hl, hm, by simpa using hz, hcell, hwz⟩⟩
  have hS := shapes hL
  have hw0 : 2 < W.heap.size := World.block_lt_of_cell? _ _ (hS 0 (by omega)).1
  have hwa : 0 < W.heap.size := World.block_lt_of_cell? _ _ hE.er.1
  have hwb : 1 < W.heap.size := World.block_lt_of_cell? _ _ hE.er.2
  clear hA0 hV0
  refine (walk a0 len0 cap0 z0 W e0 e1 hE hS hw0 w0).mono fun e W' ⟨he, bel⟩ => ?_
  subst he
  obtain ⟨fuel', hd'⟩ := Below.trod laidOut (by kernel_rfl) (of_decide_eq_true (by kernel_rfl)) (v := .agg cc) (⟨fc, hdc⟩ : DataW.Trod enc Tryd.prog W 0 (fun _ => true) true 116 (.agg cc) dc pc) bel hltv
  have hv' : DataW.TrodVars enc Tryd.prog W' (fun b => decide (b < W.heap.size)) ["loop.example/s02245/impl.errEnd", "loop.example/s02245/impl.errForm", "loop.example/s02245/impl.shapes"] [tok enc (.iface 142 (.pointer (some e0))), tok enc (.iface 142 (.pointer (some e1))), dc] _ :=
    ⟨_, _, _, 1, [], _, hga, hta, var?_below bel hga hwa hv0, trod_held Tryd.underlying54 (v := .iface 142 (.pointer (some e0))) trivial 0, ⟨_, _, _, 1, [], _, hgb, htb, var?_below bel hgb hwb hv1, trod_held Tryd.underlying54 (v := .iface 142 (.pointer (some e1))) trivial 0, trodVars_mk1 hgc htc (var?_below bel hgc hw0 hvc) hd', rfl⟩, rfl⟩
  exact ⟨_, rfl, _, _, _, [], _, _, hW', trodAll_mk1 (shut_bool Tryd.underlying4 _), (trodAll_cons_mk (Below.trod laidOut (by kernel_rfl) (of_decide_eq_true (by kernel_rfl)) k0 bel lt0) trodAll_mk0), hv', bel.frame _, fun h => by cases h⟩

/-- A block that holds these cells. -/
def laidAs (cs : Array Value) : Obj → Obj
  | .cells _ t frozen => .cells cs t frozen
  | o => o
def extras (_N : Nat) : Array Obj := #[.cells #[.string { data := #[116, 104, 101, 32, 98, 121, 116, 101, 115, 32, 101, 110, 100, 32, 116, 111, 111, 32, 115, 111, 111, 110] }] 166, .cells #[.string { data := #[97, 32, 98, 121, 116, 101, 32, 116, 104, 97, 116, 32, 105, 115, 32, 110, 101, 118, 101, 114, 32, 119, 114, 105, 116, 116, 101, 110, 32, 97, 116, 32, 105, 116, 115, 32, 112, 108, 97, 99, 101] }] 166]
set_option maxRecDepth 100000 in
/-- A world for the witness: the settled one with two blocks more (the two errors), each variable holding what its initialiser lays. -/
def laidWorld (N : Nat) (w0 : World) : World :=
  let h1 := w0.heap.modify 2 (laidAs #[.int .i64 1, .int .i64 0, .int .i64 0, .int .i64 1, .int .i64 0, .int .i64 0, .int .i64 0, .int .i64 1, .int .i64 0, .int .i64 0, .int .i64 0, .int .i64 1, .int .i64 0, .int .i64 0, .int .i64 0, .int .i64 1, .int .i64 2, .int .i64 0, .int .i64 0, .int .i64 1, .int .i64 3, .int .i64 0, .int .i64 0, .int .i64 1, .int .i64 3, .int .i64 0, .int .i64 1, .int .i64 0, .int .i64 3, .int .i64 0, .int .i64 1, .int .i64 0, .int .i64 5, .int .i64 0, .int .i64 0, .int .i64 1, .int .i64 5, .int .i64 0, .int .i64 1, .int .i64 0, .int .i64 6, .int .i64 0, .int .i64 0, .int .i64 1, .int .i64 0, .int .i64 0, .int .i64 0, .int .i64 1, .int .i64 0, .int .i64 0, .int .i64 3, .int .i64 1, .int .i64 0, .int .i64 0, .int .i64 2, .int .i64 1, .int .i64 0, .int .i64 0, .int .i64 3, .int .i64 0, .int .i64 7, .int .i64 0, .int .i64 2, .int .i64 1, .int .i64 0, .int .i64 0, .int .i64 1, .int .i64 1, .int .i64 0, .int .i64 0, .int .i64 1, .int .i64 1, .int .i64 9, .int .i64 0, .int .i64 0, .int .i64 0, .int .i64 9, .int .i64 0, .int .i64 1, .int .i64 0, .int .i64 9, .int .i64 0, .int .i64 1, .int .i64 0, .int .i64 9, .int .i64 0, .int .i64 1, .int .i64 0, .int .i64 8, .int .i64 8, .int .i64 1, .int .i64 0, .int .i64 8, .int .i64 0, .int .i64 1, .int .i64 0, .int .i64 8, .int .i64 0, .int .i64 0, .int .i64 0, .int .i64 0, .int .i64 0, .int .i64 1, .int .i64 0, .int .i64 4, .int .i64 9, .int .i64 0, .int .i64 0, .int .i64 4, .int .i64 9, .int .i64 0, .int .i64 0])
  let h2 := h1.modify 0 (laidAs #[.iface 142 (.pointer (some ⟨N, 0, none⟩))])
  let h3 := h2.modify 1 (laidAs #[.iface 142 (.pointer (some ⟨N + 1, 0, none⟩))])
  { w0 with heap := h3 }
theorem laid_met (os : Os) : laidMet Tryd.prog Rows.fnExactLoadProgramRow.laid ((laidWorld (World.settled Tryd.prog os).heap.size (World.holding Tryd.prog os ⟨extras (World.settled Tryd.prog os).heap.size, #[], []⟩)).forCall (fun _ _ => 0) ⟨#[], #[.slice none 0 0], []⟩).memory :=
  laidMet_of_run' 8 (by kernel_rfl) (by kernel_rfl)
theorem reads (os : Os) {H : Type} (enc : TypeId × Value → H) : ∃ gs places, DataW.whole enc Tryd.prog ((laidWorld (World.settled Tryd.prog os).heap.size (World.holding Tryd.prog os ⟨extras (World.settled Tryd.prog os).heap.size, #[], []⟩)).forCall (fun _ _ => 0) ⟨#[], #[.slice none 0 0], []⟩).memory Tryd.f3.params.toList Rows.fnExactLoadProgramSpec.vars false #[Value.slice none 0 0].toList 8 = some ([.nil], gs, places) :=
  ⟨[tok enc (.iface 142 (.pointer (some ⟨(World.settled Tryd.prog os).heap.size, 0, none⟩))), tok enc (.iface 142 (.pointer (some ⟨(World.settled Tryd.prog os).heap.size + 1, 0, none⟩))), Rows.laid_loop_example_s02245_impl_shapes], MemPlace.row ⟨0, 0, none⟩ 1 ++ [] ++ (MemPlace.row ⟨1, 0, none⟩ 1 ++ [] ++ (MemPlace.row ⟨2, 0, none⟩ 112)), by kernel_rfl⟩

set_option maxRecDepth 100000 in
theorem lifted (os : Os) (started : os.Started) (H : Type) (enc : TypeId × Value → H) (F : Stop.Interp) :
    ReturnsInHanded {} Tryd.checked os 3 .any ((OpenSpec.ofChange Rows.fnExactLoadProgramSpec).preRow enc Tryd.prog Tryd.f3 Rows.fnExactLoadProgramRow.domain false Rows.fnExactLoadProgramRow.laid) (((OpenSpec.ofChange Rows.fnExactLoadProgramSpec).at F).post enc Tryd.prog Tryd.f3 false true false false) := by
  obtain ⟨gs0, places, hx⟩ := reads os enc
  refine returnsInHanded_of_row (C := Tryd.checked) (s := OpenSpec.ofChange Rows.fnExactLoadProgramSpec) own started (by kernel_rfl) Tryd.func3
    (witness_row_atRef (enc := enc) (C := Tryd.checked) false (laidWorld (World.settled Tryd.prog os).heap.size (World.holding Tryd.prog os ⟨extras (World.settled Tryd.prog os).heap.size, #[], []⟩)) #[.slice none 0 0] rfl (by kernel_rfl) (by kernel_rfl) (by kernel_rfl)
      (OpenSpec.preRow_of_cond 8 hx (by kernel_rfl) (fun k hk => by cases hk) (by kernel_rfl) (laid_met os))) ?_
  intro W base args ds gs before hval hW _ _ _ hL _ _
  exact contract H enc W base args ds gs before hval hW hL

theorem said : Rows.FnExactLoadProgramSaid :=
  OpenClaim.holds_of_cond 3 Tryd.f3 rfl rfl rfl rfl rfl rfl rfl ⟨rfl, rfl, rfl, rfl, rfl⟩ rfl rfl rfl rfl rfl (by kernel_rfl) Tryd.func3 (by kernel_rfl)
    (of_decide_eq_true (by kernel_rfl)) (by unfold Func.isWrapper; first | (rw [if_pos (by decide +kernel)]; kernel_rfl) | (rw [if_neg (by decide +kernel)]; exact ⟨rfl, rfl⟩))
    (fun os started H enc _ F => by rw [OpenClaim.pre_eq_preRow]; exact lifted os started H enc F)

theorem plain (f : FuncId) (fn : Func) (hf : Tryd.pinned.checked.prog.funcNamed "loop.example/s02245/laws.FnExactLoadProgram" = some f) (hfn : Tryd.pinned.checked.prog.funcs[f]? = some fn) :
    true = Tryd.pinned.checked.prog.looks [] ∧ ∀ (j : Nat) t, fn.params[j]? = some t → Tryd.pinned.checked.prog.wantsStandIn t = false := by
  obtain rfl : f = 3 := Option.some.inj ((show Tryd.prog.funcNamed "loop.example/s02245/laws.FnExactLoadProgram" = some 3 by kernel_rfl).symm.trans hf) |>.symm
  obtain rfl : fn = Tryd.f3 := (Option.some.inj (Tryd.func3.symm.trans hfn)).symm
  refine ⟨by kernel_rfl, fun j t ht => ?_⟩
  rw [Tryd.params3] at ht
  obtain rfl : t = 22 := by simpa using Array.mem_of_getElem? ht
  exact (show Tryd.prog.wantsStandIn 22 = false by kernel_rfl)

/-- The card. -/
theorem card : Rows.FnExactLoadProgramCardSaid :=
  Claim7.holds_tied_plain_at .later [] _ _ _ _ said (fun _ h => by cases h) (by kernel_rfl) (fun _ h => by cases h) fnExactLoadProgram_row_tie rfl ⟨rfl, rfl⟩ (by kernel_rfl) rfl plain (by kernel_rfl)
#print axioms card
end Go.Proofs.YteagakplhfiodaaDoor.fnExactLoadProgram
