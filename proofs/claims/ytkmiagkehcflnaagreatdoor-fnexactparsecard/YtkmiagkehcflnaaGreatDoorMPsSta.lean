import Derived.Test.YtkmiagkehcflnaaGreatDoorMPsFunc
import Derived.Test.YtkmiagkehcflnaaGreatDoorMPsBlk
set_option maxRecDepth 100000
set_option maxHeartbeats 8000000
namespace Go.Proofs.YtkmiagkehcflnaaGreatDoor
namespace ps
open Go.RowKit bts nod lex tk
def NC (B:Nat→Bool) (W:World) (b:Nat) (xs:List Value):Prop:=∀j u,xs[j]?=some u→(veil B W).cell? ⟨b,j,none⟩=some u
theorem nc_new {B:Nat→Bool} {W:World} {xs:List Value} {T:TypeId} (hB:B W.heap.size=false):NC B (W.alloc (.cells xs.toArray T)) W.heap.size xs:=fun j u h=>cell_new hB (by simpa using h)
theorem nc_two {B:Nat→Bool} {W:World} {us xs:List Value} {T U:TypeId} (hB:∀b,W.heap.size≤b→B b=false):NC B ((W.alloc (.cells us.toArray U)).alloc (.cells xs.toArray T)) (W.heap.size+1) xs:=by
 have:=nc_new (B:=B) (W:=W.alloc (.cells us.toArray U)) (xs:=xs) (T:=T) (hB _ (by simp))
 simpa using this
section
variable {E:En} {Q Q':Nat→Bool} {w W W':World} {g b:Nat} {s:Ps} {xs:List Value}
theorem Cur.nc (C:Cur E w g Q W s) (hF:Fq g W W') (h:NC (hd w Q) W b xs):NC (hd w Q) W' b xs:=fun j u hj=>(C.up hF).cell (h j u hj)
theorem Mv.nc (hm:Mv w Q W Q' W') (h:NC (hd w Q) W b xs):NC (hd w Q') W' b xs:=fun j u hj=>hm.1.cell (cell_veils (h j u hj) hm.2)
theorem NC.at {B:Nat→Bool} {u:Value} (h:NC B W b xs) (j:Nat) (hj:xs[j]?=some u):W.cell? ⟨b,j,none⟩=some u:=(veil_cell (h j u hj)).1
theorem bel_two (W:World) (o p:Obj):Below W.heap.size W ((W.alloc o).alloc p):=((Below.refl _ _).alloc (Nat.le_refl _) _).alloc (by simp) _
end
theorem sta_next {E:En} (ok:E.ok) {f:Nat} (A:Al E f) (s:Ps) (hn0:need E.T 13 s≤f+1):∃l c s',Rs E (f+1) 13 0 s [l] c s'∧Nods E 33 ag1 s l s':=by
 have hn:(0≤s.bad∧4≤f+1)∨(s.bad<0∧20*(E.T.length-s.at_)+9≤f+1):=nx hn0 rfl rfl
 by_cases h1:isP E.zs E.T s {data:=#[108,111,99,97,108]}=true
 ·skip
  obtain ⟨s1,es1⟩:∃x,got E.zs E.T s {data:=#[108,111,99,97,108]}=x:=⟨_,rfl⟩
  have gs1:s1.at_=s.at_+1∧s1.bad=s.bad:=by rw [← es1];exact got_yes h1
  have bs1:=is_bad h1
  by_cases hf:isP E.zs E.T s1 {data:=#[102,117,110,99,116,105,111,110]}=true
  ·skip
   obtain ⟨s2,es2⟩:∃x,got E.zs E.T s1 {data:=#[102,117,110,99,116,105,111,110]}=x:=⟨_,rfl⟩
   have gs2:s2.at_=s1.at_+1∧s2.bad=s1.bad:=by rw [← es2];exact got_yes hf
   have bs2:=is_bad hf
   obtain ⟨s3,es3⟩:∃x,nameS E.zs E.T s2=x:=⟨_,rfl⟩
   obtain ⟨ts3,ets3⟩:∃x,nameT E.zs E.T s2=x:=⟨_,rfl⟩
   have gs3:(s3.at_=s2.at_+1∧s2.at_<E.T.length∧s2.bad<0∧s3.bad=s2.bad)∨(s3.at_=s2.at_∧0≤s3.bad):=by rw [← es3];exact name_f _ _ _
   obtain ⟨ls4,cs4,s4,Rs4,Ds4⟩:=A.fun_ s3 (nd 8 3 3 rfl rfl (by omega))
   have gs4:s3.at_≤s4.at_∧(0≤s3.bad→0≤s4.bad):=⟨Rs4.2.1,Rs4.2.2.1⟩
   refine ⟨tk.node ⟨26,0,[],[ts3],0⟩ [ls4],0,s4,rs_of (by decide) hn0 (by rw [pz_13];unfold pB13;dsimp only;simp only [if_pos h1,es1,if_pos hf,es2,es3,ets3,Rs4.1]) (by decide),fun w g hP=>?_⟩
   have C0:Hid (Cur E w g no w s):=Cur.start ok hP
   have HRs4:Hid _:=Rs4
   have HDs4:Hid _:=Ds4
   clear hP hn hn0 Rs4 Ds4 gs1 bs1 gs2 bs2 gs3 gs4
   unfold ag1
   go_enter Tryz.func33,Tryz.ntmps33
   go_wp2_with (first
    |(go_at_call 58;refine (C2.out.name ets3 es3).mono ?_;rintro e w3 ⟨a3,c3,rfl,hX,hC,hF⟩;have C3:Hid _:=hC;have V_3:Hid _:=hX;clear hC hF hX)
    |(go_at_call 28;refine (C1.out.got hf es2).mono ?_;rintro e w2 ⟨rfl,hC,hF⟩;have C2:Hid _:=hC;clear hC hF)
    |(go_at_call 28;refine (C0.out.got h1 es1).mono ?_;rintro e w1 ⟨rfl,hC,hF⟩;have C1:Hid _:=hC;clear hC hF))
   obtain ⟨hCa,hFa⟩:=C3.out.bel (bel_two w3 (.cells #[.slice a3 ts3.length c3] 22) (.cells #[.int .i64 26,.int .i64 0,.slice none 0 0,.slice (some ⟨w3.heap.size,0,none⟩) 1 1,.int .i64 0] 61))
   have M_L3:Hid (RdVV (veil (hd w no) ((w3.alloc (.cells #[.slice a3 ts3.length c3] 22)).alloc (.cells #[.int .i64 26,.int .i64 0,.slice none 0 0,.slice (some ⟨w3.heap.size,0,none⟩) 1 1,.int .i64 0] 61))) (.slice (some ⟨w3.heap.size,0,none⟩) 1 1) [ts3]):=RdVV.up (rdVV_one (C3.out.new (Nat.le_refl _)) V_3.out) (up_alloc _ _ _)
   have B_L3:Hid (NC (hd w no) ((w3.alloc (.cells #[.slice a3 ts3.length c3] 22)).alloc (.cells #[.int .i64 26,.int .i64 0,.slice none 0 0,.slice (some ⟨w3.heap.size,0,none⟩) 1 1,.int .i64 0] 61)) (w3.heap.size+1) [.int .i64 26,.int .i64 0,.slice none 0 0,.slice (some ⟨w3.heap.size,0,none⟩) 1 1,.int .i64 0]):=nc_two (us:=[.slice a3 ts3.length c3]) (fun b hb=>C3.out.new hb)
   have CL3:Hid (Cur E w g no ((w3.alloc (.cells #[.slice a3 ts3.length c3] 22)).alloc (.cells #[.int .i64 26,.int .i64 0,.slice none 0 0,.slice (some ⟨w3.heap.size,0,none⟩) 1 1,.int .i64 0] 61)) s3):=hCa
   clear hCa hFa
   obtain ⟨WL,hWL⟩:∃W,W=((w3.alloc (.cells #[.slice a3 ts3.length c3] 22)).alloc (.cells #[.int .i64 26,.int .i64 0,.slice none 0 0,.slice (some ⟨w3.heap.size,0,none⟩) 1 1,.int .i64 0] 61)):=⟨_,rfl⟩
   rw [← hWL] at M_L3 B_L3 CL3
   rw [← hWL]
   clear hWL
   have y0:WL.cell? ⟨w3.heap.size+1,0,none⟩=some (.int .i64 26):=NC.at B_L3.out 0 rfl
   have y1:WL.cell? ⟨w3.heap.size+1,1,none⟩=some (.int .i64 0):=NC.at B_L3.out 1 rfl
   have y2:WL.cell? ⟨w3.heap.size+1,2,none⟩=some (.slice none 0 0):=NC.at B_L3.out 2 rfl
   have y3:WL.cell? ⟨w3.heap.size+1,3,none⟩=some (.slice (some ⟨w3.heap.size,0,none⟩) 1 1):=NC.at B_L3.out 3 rfl
   have y4:WL.cell? ⟨w3.heap.size+1,4,none⟩=some (.int .i64 0):=NC.at B_L3.out 4 rfl
   go_region_with (first
    |(go_at_call 31;refine (C9.out.nodeL (nd:=⟨26,0,[],[ts3],0⟩) (kr_one X9.out) rfl (rdV_nil _) M9.out (by have:=tot_le HRs4.out C9.out;omega) (by simp)).mono ?_;rintro e w10 ⟨a10,c10,rfl,hX,hC,hF⟩;have C10:Hid _:=hC;have X10:Hid _:=hX;clear hC hF hX)
    |(go_at_call 59;refine ((CL3.out.bel (by repeat (first|exact Below.refl _ _|refine Below.drew ?_|refine tk.bel_drewN ?_ _))).1.call HDs4.out).mono ?_;rintro e w9 ⟨a9,c9,rfl,hX,hC,hF⟩;have C9:Hid _:=hC;have X9:Hid _:=hX;have B9:Hid _:=(CL3.out.bel (by repeat (first|exact Below.refl _ _|refine Below.drew ?_|refine tk.bel_drewN ?_ _))).1.nc hF (CL3.out.nc (CL3.out.bel (by repeat (first|exact Below.refl _ _|refine Below.drew ?_|refine tk.bel_drewN ?_ _))).2 B_L3.out);have M9:Hid _:=(CL3.out.bel (by repeat (first|exact Below.refl _ _|refine Below.drew ?_|refine tk.bel_drewN ?_ _))).1.rvv hF (CL3.out.rvv (CL3.out.bel (by repeat (first|exact Below.refl _ _|refine Below.drew ?_|refine tk.bel_drewN ?_ _))).2 M_L3.out);clear hC hF hX;have z0:w9.cell? ⟨w3.heap.size+1,0,none⟩=some (.int .i64 26):=NC.at B9.out 0 rfl;have z1:w9.cell? ⟨w3.heap.size+1,1,none⟩=some (.int .i64 0):=NC.at B9.out 1 rfl;have z2:w9.cell? ⟨w3.heap.size+1,2,none⟩=some (.slice none 0 0):=NC.at B9.out 2 rfl;have z3:w9.cell? ⟨w3.heap.size+1,3,none⟩=some (.slice (some ⟨w3.heap.size,0,none⟩) 1 1):=NC.at B9.out 3 rfl;have z4:w9.cell? ⟨w3.heap.size+1,4,none⟩=some (.int .i64 0):=NC.at B9.out 4 rfl;have x0:(w9.alloc (.cells #[.slice a9 ls4.length c9] 23)).cell? ⟨w3.heap.size+1,0,none⟩=some (.int .i64 26):=cellB z0 (bel_alloc _ _);have x1:(w9.alloc (.cells #[.slice a9 ls4.length c9] 23)).cell? ⟨w3.heap.size+1,1,none⟩=some (.int .i64 0):=cellB z1 (bel_alloc _ _);have x2:(w9.alloc (.cells #[.slice a9 ls4.length c9] 23)).cell? ⟨w3.heap.size+1,2,none⟩=some (.slice none 0 0):=cellB z2 (bel_alloc _ _);have x3:(w9.alloc (.cells #[.slice a9 ls4.length c9] 23)).cell? ⟨w3.heap.size+1,3,none⟩=some (.slice (some ⟨w3.heap.size,0,none⟩) 1 1):=cellB z3 (bel_alloc _ _);have x4:(w9.alloc (.cells #[.slice a9 ls4.length c9] 23)).cell? ⟨w3.heap.size+1,4,none⟩=some (.int .i64 0):=cellB z4 (bel_alloc _ _)))
   all_goals
    go_wp2
    go_returns
    exact C10.out.done X10.out rfl
  ·skip
   obtain ⟨ms2,ems2⟩:∃x,names E.zs E.T s1=x:=⟨_,rfl⟩
   obtain ⟨ts2,s2⟩:=ms2
   have gs2:s1.at_≤s2.at_∧(0≤s1.bad→0≤s2.bad):=by have:=names_f E.zs E.T s1;rw [ems2] at this;exact this
   by_cases hq:isP E.zs E.T s2 {data:=#[61]}=true
   ·skip
    obtain ⟨s3,es3⟩:∃x,got E.zs E.T s2 {data:=#[61]}=x:=⟨_,rfl⟩
    have gs3:s3.at_=s2.at_+1∧s3.bad=s2.bad:=by rw [← es3];exact got_yes hq
    have bs3:=is_bad hq
    obtain ⟨ls4,cs4,s4,Rs4,qs4,Ds4⟩:=A.exs s3 (nd 6 6 7 rfl rfl (by omega))
    have gs4:s3.at_≤s4.at_∧(0≤s3.bad→0≤s4.bad):=⟨Rs4.2.1,Rs4.2.2.1⟩
    refine ⟨tk.node ⟨1,0,[],ts2,0⟩ ls4,0,s4,rs_of (by decide) hn0 (by rw [pz_13];unfold pB13;dsimp only;simp only [if_pos h1,es1,if_neg hf,ems2,if_pos hq,es3,Rs4.1]) (by decide),fun w g hP=>?_⟩
    have C0:Hid (Cur E w g no w s):=Cur.start ok hP
    have HRs4:Hid _:=Rs4
    have HDs4:Hid _:=Ds4
    have Hqs4:Hid _:=qs4
    clear hP hn hn0 Rs4 Ds4 qs4 gs1 bs1 gs2 gs3 bs3 gs4
    unfold ag1
    go_enter Tryz.func33,Tryz.ntmps33
    go_wp2_with (first
     |(go_at_call 31;refine (C5.out.nodeF (n:=⟨1,0,[],ts2,0⟩) (Below.refl _ _) (X_5.out) (rdV_nil _) (M_5.out) (by have:=tot_le HRs4.out C5.out;omega) (by have:=Hqs4.out;have:=C5.out.le;have:=C5.out.many;omega)).mono ?_;rintro e w6 ⟨a6,c6,rfl,hX,hC,hF⟩;have C6:Hid _:=hC;have M_6:Hid _:=C5.out.rvv hF M_5.out;have N_6:Hid _:=hX;clear hC hF hX)
     |(go_at_call 30;refine (C4.out.callK HDs4.out).mono ?_;rintro e w5 ⟨a5,c5,rfl,hX,hC,hF⟩;have C5:Hid _:=hC;have M_5:Hid _:=C4.out.rvv hF M_4.out;have B_5:Hid _:=C4.out.nc hF B_4.out;have X_5:Hid _:=hX;clear hC hF hX;have y0:w5.cell? ⟨w3.heap.size,0,none⟩=some (.int .i64 1):=NC.at B_5.out 0 rfl;have y1:w5.cell? ⟨w3.heap.size,1,none⟩=some (.int .i64 0):=NC.at B_5.out 1 rfl;have y2:w5.cell? ⟨w3.heap.size,2,none⟩=some (.slice none 0 0):=NC.at B_5.out 2 rfl;have y3:w5.cell? ⟨w3.heap.size,3,none⟩=some (.slice a3 ts2.length c3):=NC.at B_5.out 3 rfl;have y4:w5.cell? ⟨w3.heap.size,4,none⟩=some (.int .i64 0):=NC.at B_5.out 4 rfl)
     |(go_at_call 28;obtain ⟨hCa,hFa⟩:=C3.out.bel (bel_alloc w3 (.cells #[.int .i64 1,.int .i64 0,.slice none 0 0,.slice a3 ts2.length c3,.int .i64 0] 61));have M_L3:Hid (RdVV (veil (hd w no) (w3.alloc (.cells #[.int .i64 1,.int .i64 0,.slice none 0 0,.slice a3 ts2.length c3,.int .i64 0] 61))) (.slice a3 ts2.length c3) ts2):=C3.out.rvv hFa V_3.out;have B_L3:Hid (NC (hd w no) (w3.alloc (.cells #[.int .i64 1,.int .i64 0,.slice none 0 0,.slice a3 ts2.length c3,.int .i64 0] 61)) (w3.heap.size) [.int .i64 1,.int .i64 0,.slice none 0 0,.slice a3 ts2.length c3,.int .i64 0]):=nc_new (C3.out.new (Nat.le_refl _));have CL3:Hid (Cur E w g no (w3.alloc (.cells #[.int .i64 1,.int .i64 0,.slice none 0 0,.slice a3 ts2.length c3,.int .i64 0] 61)) s2):=hCa;clear hCa hFa;refine (CL3.out.got hq es3).mono ?_;rintro e w4 ⟨rfl,hC,hF⟩;have C4:Hid _:=hC;have M_4:Hid _:=CL3.out.rvv hF M_L3.out;have B_4:Hid _:=CL3.out.nc hF B_L3.out;clear hC hF)
     |(go_at_call 60;refine (C2.out.names ems2).mono ?_;rintro e w3 ⟨a3,c3,rfl,hX,hC,hF⟩;have C3:Hid _:=hC;have V_3:Hid _:=hX;clear hC hF hX)
     |(go_at_call 28;refine (C1.out.got (bool_no hf) (got_no hf)).mono ?_;rintro e w2 ⟨rfl,hC,hF⟩;have C2:Hid _:=hC;clear hC hF)
     |(go_at_call 28;refine (C0.out.got h1 es1).mono ?_;rintro e w1 ⟨rfl,hC,hF⟩;have C1:Hid _:=hC;clear hC hF))
    go_returns
    exact C6.out.done N_6.out rfl
   ·skip
    refine ⟨tk.node ⟨1,0,[],ts2,0⟩ [],0,s2,rs_of (by decide) hn0 (by rw [pz_13];unfold pB13;dsimp only;simp only [if_pos h1,es1,if_neg hf,ems2,if_neg hq]) (by decide),fun w g hP=>?_⟩
    have C0:Hid (Cur E w g no w s):=Cur.start ok hP
    clear hP hn hn0 gs1 bs1 gs2
    unfold ag1
    go_enter Tryz.func33,Tryz.ntmps33
    go_wp2_with (first
     |(go_at_call 31;refine (C4.out.nodeF (n:=⟨1,0,[],ts2,0⟩) (Below.refl _ _) (fns_nil) (rdV_nil _) (M_4.out) (by decide) (by simp)).mono ?_;rintro e w5 ⟨a5,c5,rfl,hX,hC,hF⟩;have C5:Hid _:=hC;have M_5:Hid _:=C4.out.rvv hF M_4.out;have N_5:Hid _:=hX;clear hC hF hX)
     |(go_at_call 28;obtain ⟨hCa,hFa⟩:=C3.out.bel (bel_alloc w3 (.cells #[.int .i64 1,.int .i64 0,.slice none 0 0,.slice a3 ts2.length c3,.int .i64 0] 61));have M_L3:Hid (RdVV (veil (hd w no) (w3.alloc (.cells #[.int .i64 1,.int .i64 0,.slice none 0 0,.slice a3 ts2.length c3,.int .i64 0] 61))) (.slice a3 ts2.length c3) ts2):=C3.out.rvv hFa V_3.out;have B_L3:Hid (NC (hd w no) (w3.alloc (.cells #[.int .i64 1,.int .i64 0,.slice none 0 0,.slice a3 ts2.length c3,.int .i64 0] 61)) (w3.heap.size) [.int .i64 1,.int .i64 0,.slice none 0 0,.slice a3 ts2.length c3,.int .i64 0]):=nc_new (C3.out.new (Nat.le_refl _));have CL3:Hid (Cur E w g no (w3.alloc (.cells #[.int .i64 1,.int .i64 0,.slice none 0 0,.slice a3 ts2.length c3,.int .i64 0] 61)) s2):=hCa;clear hCa hFa;refine (CL3.out.got (bool_no hq) (got_no hq)).mono ?_;rintro e w4 ⟨rfl,hC,hF⟩;have C4:Hid _:=hC;have M_4:Hid _:=CL3.out.rvv hF M_L3.out;have B_4:Hid _:=CL3.out.nc hF B_L3.out;clear hC hF;have y0:w4.cell? ⟨w3.heap.size,0,none⟩=some (.int .i64 1):=NC.at B_4.out 0 rfl;have y1:w4.cell? ⟨w3.heap.size,1,none⟩=some (.int .i64 0):=NC.at B_4.out 1 rfl;have y2:w4.cell? ⟨w3.heap.size,2,none⟩=some (.slice none 0 0):=NC.at B_4.out 2 rfl;have y3:w4.cell? ⟨w3.heap.size,3,none⟩=some (.slice a3 ts2.length c3):=NC.at B_4.out 3 rfl;have y4:w4.cell? ⟨w3.heap.size,4,none⟩=some (.int .i64 0):=NC.at B_4.out 4 rfl)
     |(go_at_call 60;refine (C2.out.names ems2).mono ?_;rintro e w3 ⟨a3,c3,rfl,hX,hC,hF⟩;have C3:Hid _:=hC;have V_3:Hid _:=hX;clear hC hF hX)
     |(go_at_call 28;refine (C1.out.got (bool_no hf) (got_no hf)).mono ?_;rintro e w2 ⟨rfl,hC,hF⟩;have C2:Hid _:=hC;clear hC hF)
     |(go_at_call 28;refine (C0.out.got h1 es1).mono ?_;rintro e w1 ⟨rfl,hC,hF⟩;have C1:Hid _:=hC;clear hC hF))
    go_returns
    exact C5.out.done N_5.out rfl
 ·skip
  by_cases h2:isP E.zs E.T s {data:=#[100,111]}=true
  ·skip
   obtain ⟨s1,es1⟩:∃x,got E.zs E.T s {data:=#[100,111]}=x:=⟨_,rfl⟩
   have gs1:s1.at_=s.at_+1∧s1.bad=s.bad:=by rw [← es1];exact got_yes h2
   have bs1:=is_bad h2
   obtain ⟨ls2,cs2,s2,Rs2,Ds2⟩:=A.blk s1 (nd 11 2 11 rfl rfl (by omega))
   have gs2:s1.at_≤s2.at_∧(0≤s1.bad→0≤s2.bad):=⟨Rs2.2.1,Rs2.2.2.1⟩
   obtain ⟨s3,es3⟩:∃x,want E.zs E.T s2 {data:=#[101,110,100]}=x:=⟨_,rfl⟩
   have gs3:(s3.at_=s2.at_+1∧s2.at_<E.T.length∧s2.bad<0∧s3.bad=s2.bad)∨(s3.at_=s2.at_∧0≤s3.bad):=by rw [← es3];exact want_f _ _ _ _
   refine ⟨tk.node (bare 3) [ls2],0,s3,rs_of (by decide) hn0 (by rw [pz_13];unfold pB13;dsimp only;simp only [if_neg h1,if_pos h2,es1,Rs2.1,es3]) (by decide),fun w g hP=>?_⟩
   have C0:Hid (Cur E w g no w s):=Cur.start ok hP
   have HRs2:Hid _:=Rs2
   have HDs2:Hid _:=Ds2
   clear hP hn hn0 Rs2 Ds2 gs1 bs1 gs2 gs3
   unfold ag1
   go_enter Tryz.func33,Tryz.ntmps33
   go_wp2_with (first
    |(go_at_call 31;refine (C4.out.nodeL (nd:=bare 3) (kr_one X_4.out) rfl (rdV_nil _) (rdVV_nil _) (by have:=tot_le HRs2.out C3.out;omega) (by simp)).mono ?_;rintro e w5 ⟨a5,c5,rfl,hX,hC,hF⟩;have C5:Hid _:=hC;have N_5:Hid _:=hX;clear hC hF hX)
    |(go_at_call 61;refine (C3.out.want es3).mono ?_;rintro e w4 ⟨⟨v4,rfl⟩,hC,hF⟩;have C4:Hid _:=hC;have X_4:Hid _:=C3.out.fn hF X_3.out;clear hC hF)
    |(go_at_call 13;refine (C2.out.call HDs2.out).mono ?_;rintro e w3 ⟨a3,c3,rfl,hX,hC,hF⟩;have C3:Hid _:=hC;have X_3:Hid _:=hX;clear hC hF hX)
    |(go_at_call 28;refine (C1.out.got h2 es1).mono ?_;rintro e w2 ⟨rfl,hC,hF⟩;have C2:Hid _:=hC;clear hC hF)
    |(go_at_call 28;refine (C0.out.got (bool_no h1) (got_no h1)).mono ?_;rintro e w1 ⟨rfl,hC,hF⟩;have C1:Hid _:=hC;clear hC hF))
   go_returns
   exact C5.out.done N_5.out rfl
  ·skip
   by_cases h3:isP E.zs E.T s {data:=#[119,104,105,108,101]}=true
   ·skip
    obtain ⟨s1,es1⟩:∃x,got E.zs E.T s {data:=#[119,104,105,108,101]}=x:=⟨_,rfl⟩
    have gs1:s1.at_=s.at_+1∧s1.bad=s.bad:=by rw [← es1];exact got_yes h3
    have bs1:=is_bad h3
    obtain ⟨ls2,cs2,s2,Rs2,Ds2⟩:=A.bin 1 s1 (by omega) (by omega) (nd 0 5 6 rfl rfl (by omega))
    have gs2:s1.at_≤s2.at_∧(0≤s1.bad→0≤s2.bad):=⟨Rs2.2.1,Rs2.2.2.1⟩
    obtain ⟨s3,es3⟩:∃x,want E.zs E.T s2 {data:=#[100,111]}=x:=⟨_,rfl⟩
    have gs3:(s3.at_=s2.at_+1∧s2.at_<E.T.length∧s2.bad<0∧s3.bad=s2.bad)∨(s3.at_=s2.at_∧0≤s3.bad):=by rw [← es3];exact want_f _ _ _ _
    obtain ⟨ls4,cs4,ks4,Rs4,Ds4⟩:=A.blk {s3 with loop:=true} (by have nn:(0≤s3.bad∧need E.T 11 {s3 with loop:=true}=2)∨(s3.bad<0∧need E.T 11 {s3 with loop:=true}=20*(E.T.length-s3.at_)+11):=need_or E.T 11 {s3 with loop:=true};omega)
    obtain ⟨s4,es4⟩:∃x,({ks4 with loop:=s3.loop}:Ps)=x:=⟨_,rfl⟩
    have gs4:s3.at_≤s4.at_∧(0≤s3.bad→0≤s4.bad):=by rw [← es4];exact ⟨Rs4.2.1,Rs4.2.2.1⟩
    have D2s4:Nods E 62 ag1 s3 ls4 s4:=by rw [← es4];exact inLoop_any ok Ds4
    have Ts4:tot [ls4]≤20*(s4.at_-s3.at_)+10:=by rw [← es4];exact Rs4.2.2.2
    obtain ⟨s5,es5⟩:∃x,want E.zs E.T s4 {data:=#[101,110,100]}=x:=⟨_,rfl⟩
    have gs5:(s5.at_=s4.at_+1∧s4.at_<E.T.length∧s4.bad<0∧s5.bad=s4.bad)∨(s5.at_=s4.at_∧0≤s5.bad):=by rw [← es5];exact want_f _ _ _ _
    refine ⟨tk.node (bare 4) ([ls2]++[ls4]),0,s5,rs_of (by decide) hn0 (by rw [pz_13];unfold pB13;dsimp only;simp only [if_neg h1,if_neg h2,if_pos h3,es1,Rs2.1,es3,Rs4.1,es4,es5]) (by decide),fun w g hP=>?_⟩
    have C0:Hid (Cur E w g no w s):=Cur.start ok hP
    have HRs2:Hid _:=Rs2
    have HDs2:Hid _:=Ds2
    have HD2s4:Hid _:=D2s4
    have HTs4:Hid _:=Ts4
    clear hP hn hn0 Rs2 Ds2 D2s4 Ts4 gs1 bs1 gs2 gs3 gs4 Ds4 Rs4 gs5
    unfold ag1
    go_enter Tryz.func33,Tryz.ntmps33
    go_wp2_with (first
     |(go_at_call 31;refine (C7.out.nodeL (nd:=bare 4) (kr_two X_7.out Y_7.out) rfl (rdV_nil _) (rdVV_nil _) (by have h1:=tot_le HRs2.out C4.out;have h2:=HTs4.out;have h3:=C6.out.le;have h4:=C6.out.many;rw [show [ls2,ls4]=[ls2]++[ls4] from rfl,tot_app];omega) (by simp)).mono ?_;rintro e w8 ⟨a8,c8,rfl,hX,hC,hF⟩;have C8:Hid _:=hC;have N_8:Hid _:=hX;clear hC hF hX)
     |(go_at_call 61;refine (C6.out.want es5).mono ?_;rintro e w7 ⟨⟨v7,rfl⟩,hC,hF⟩;have C7:Hid _:=hC;have X_7:Hid _:=C6.out.fn hF X_6.out;have Y_7:Hid _:=C6.out.fn hF Y_6.out;clear hC hF)
     |(go_at_call 62;refine (C5.out.call HD2s4.out).mono ?_;rintro e w6 ⟨a6,c6,rfl,hX,hC,hF⟩;have C6:Hid _:=hC;have X_6:Hid _:=C5.out.fn hF X_5.out;have Y_6:Hid _:=hX;clear hC hF hX)
     |(go_at_call 61;refine (C4.out.want es3).mono ?_;rintro e w5 ⟨⟨v5,rfl⟩,hC,hF⟩;have C5:Hid _:=hC;have X_5:Hid _:=C4.out.fn hF X_4.out;clear hC hF)
     |(go_at_call 57;refine (C3.out.call HDs2.out).mono ?_;rintro e w4 ⟨a4,c4,rfl,hX,hC,hF⟩;have C4:Hid _:=hC;have X_4:Hid _:=hX;clear hC hF hX)
     |(go_at_call 28;refine (C2.out.got h3 es1).mono ?_;rintro e w3 ⟨rfl,hC,hF⟩;have C3:Hid _:=hC;clear hC hF)
     |(go_at_call 28;refine (C1.out.got (bool_no h2) (got_no h2)).mono ?_;rintro e w2 ⟨rfl,hC,hF⟩;have C2:Hid _:=hC;clear hC hF)
     |(go_at_call 28;refine (C0.out.got (bool_no h1) (got_no h1)).mono ?_;rintro e w1 ⟨rfl,hC,hF⟩;have C1:Hid _:=hC;clear hC hF))
    go_returns
    exact C8.out.done N_8.out rfl
   ·skip
    by_cases h4:isP E.zs E.T s {data:=#[114,101,112,101,97,116]}=true
    ·skip
     obtain ⟨s1,es1⟩:∃x,got E.zs E.T s {data:=#[114,101,112,101,97,116]}=x:=⟨_,rfl⟩
     have gs1:s1.at_=s.at_+1∧s1.bad=s.bad:=by rw [← es1];exact got_yes h4
     have bs1:=is_bad h4
     obtain ⟨ls2,cs2,ks2,Rs2,Ds2⟩:=A.blk {s1 with loop:=true} (by have nn:(0≤s1.bad∧need E.T 11 {s1 with loop:=true}=2)∨(s1.bad<0∧need E.T 11 {s1 with loop:=true}=20*(E.T.length-s1.at_)+11):=need_or E.T 11 {s1 with loop:=true};omega)
     obtain ⟨s2,es2⟩:∃x,({ks2 with loop:=s1.loop}:Ps)=x:=⟨_,rfl⟩
     have gs2:s1.at_≤s2.at_∧(0≤s1.bad→0≤s2.bad):=by rw [← es2];exact ⟨Rs2.2.1,Rs2.2.2.1⟩
     have D2s2:Nods E 62 ag1 s1 ls2 s2:=by rw [← es2];exact inLoop_any ok Ds2
     have Ts2:tot [ls2]≤20*(s2.at_-s1.at_)+10:=by rw [← es2];exact Rs2.2.2.2
     obtain ⟨s3,es3⟩:∃x,want E.zs E.T s2 {data:=#[117,110,116,105,108]}=x:=⟨_,rfl⟩
     have gs3:(s3.at_=s2.at_+1∧s2.at_<E.T.length∧s2.bad<0∧s3.bad=s2.bad)∨(s3.at_=s2.at_∧0≤s3.bad):=by rw [← es3];exact want_f _ _ _ _
     obtain ⟨ls4,cs4,s4,Rs4,Ds4⟩:=A.bin 1 s3 (by omega) (by omega) (nd 0 5 6 rfl rfl (by omega))
     have gs4:s3.at_≤s4.at_∧(0≤s3.bad→0≤s4.bad):=⟨Rs4.2.1,Rs4.2.2.1⟩
     refine ⟨tk.node (bare 5) ([ls2]++[ls4]),0,s4,rs_of (by decide) hn0 (by rw [pz_13];unfold pB13;dsimp only;simp only [if_neg h1,if_neg h2,if_neg h3,if_pos h4,es1,Rs2.1,es2,es3,Rs4.1]) (by decide),fun w g hP=>?_⟩
     have C0:Hid (Cur E w g no w s):=Cur.start ok hP
     have HD2s2:Hid _:=D2s2
     have HTs2:Hid _:=Ts2
     have HRs4:Hid _:=Rs4
     have HDs4:Hid _:=Ds4
     clear hP hn hn0 D2s2 Ts2 Rs4 Ds4 gs1 bs1 gs2 Ds2 Rs2 gs3 gs4
     unfold ag1
     go_enter Tryz.func33,Tryz.ntmps33
     go_wp2_with (first
      |(go_at_call 31;refine (C7.out.nodeL (nd:=bare 5) (kr_two X_7.out Y_7.out) rfl (rdV_nil _) (rdVV_nil _) (by have h1:=tot_le HRs4.out C7.out;have h2:=HTs2.out;have h3:=C5.out.le;have h4:=C5.out.many;rw [show [ls2,ls4]=[ls2]++[ls4] from rfl,tot_app];omega) (by simp)).mono ?_;rintro e w8 ⟨a8,c8,rfl,hX,hC,hF⟩;have C8:Hid _:=hC;have N_8:Hid _:=hX;clear hC hF hX)
      |(go_at_call 57;refine (C6.out.call HDs4.out).mono ?_;rintro e w7 ⟨a7,c7,rfl,hX,hC,hF⟩;have C7:Hid _:=hC;have X_7:Hid _:=C6.out.fn hF X_6.out;have Y_7:Hid _:=hX;clear hC hF hX)
      |(go_at_call 61;refine (C5.out.want es3).mono ?_;rintro e w6 ⟨⟨v6,rfl⟩,hC,hF⟩;have C6:Hid _:=hC;have X_6:Hid _:=C5.out.fn hF X_5.out;clear hC hF)
      |(go_at_call 62;refine (C4.out.call HD2s2.out).mono ?_;rintro e w5 ⟨a5,c5,rfl,hX,hC,hF⟩;have C5:Hid _:=hC;have X_5:Hid _:=hX;clear hC hF hX)
      |(go_at_call 28;refine (C3.out.got h4 es1).mono ?_;rintro e w4 ⟨rfl,hC,hF⟩;have C4:Hid _:=hC;clear hC hF)
      |(go_at_call 28;refine (C2.out.got (bool_no h3) (got_no h3)).mono ?_;rintro e w3 ⟨rfl,hC,hF⟩;have C3:Hid _:=hC;clear hC hF)
      |(go_at_call 28;refine (C1.out.got (bool_no h2) (got_no h2)).mono ?_;rintro e w2 ⟨rfl,hC,hF⟩;have C2:Hid _:=hC;clear hC hF)
      |(go_at_call 28;refine (C0.out.got (bool_no h1) (got_no h1)).mono ?_;rintro e w1 ⟨rfl,hC,hF⟩;have C1:Hid _:=hC;clear hC hF))
     go_returns
     exact C8.out.done N_8.out rfl
    ·skip
     by_cases h5:isP E.zs E.T s {data:=#[105,102]}=true
     ·skip
      obtain ⟨s1,es1⟩:∃x,got E.zs E.T s {data:=#[105,102]}=x:=⟨_,rfl⟩
      have gs1:s1.at_=s.at_+1∧s1.bad=s.bad:=by rw [← es1];exact got_yes h5
      have bs1:=is_bad h5
      obtain ⟨ls2,cs2,s2,Rs2,Ds2⟩:=A.iff_ s1 (nd 14 6 8 rfl rfl (by omega))
      have gs2:s1.at_≤s2.at_∧(0≤s1.bad→0≤s2.bad):=⟨Rs2.2.1,Rs2.2.2.1⟩
      refine ⟨ls2,cs2,s2,rs_of (by decide) hn0 (by rw [pz_13];unfold pB13;dsimp only;simp only [if_neg h1,if_neg h2,if_neg h3,if_neg h4,if_pos h5,es1,Rs2.1]) (by decide),fun w g hP=>?_⟩
      have C0:Hid (Cur E w g no w s):=Cur.start ok hP
      have HRs2:Hid _:=Rs2
      have HDs2:Hid _:=Ds2
      clear hP hn hn0 Rs2 Ds2 gs1 bs1 gs2
      unfold ag1
      go_enter Tryz.func33,Tryz.ntmps33
      go_wp2_with (first
       |(go_at_call 63;refine (C5.out.call HDs2.out).mono ?_;rintro e w6 ⟨a6,c6,rfl,hX,hC,hF⟩;have C6:Hid _:=hC;have X_6:Hid _:=hX;clear hC hF hX)
       |(go_at_call 28;refine (C4.out.got h5 es1).mono ?_;rintro e w5 ⟨rfl,hC,hF⟩;have C5:Hid _:=hC;clear hC hF)
       |(go_at_call 28;refine (C3.out.got (bool_no h4) (got_no h4)).mono ?_;rintro e w4 ⟨rfl,hC,hF⟩;have C4:Hid _:=hC;clear hC hF)
       |(go_at_call 28;refine (C2.out.got (bool_no h3) (got_no h3)).mono ?_;rintro e w3 ⟨rfl,hC,hF⟩;have C3:Hid _:=hC;clear hC hF)
       |(go_at_call 28;refine (C1.out.got (bool_no h2) (got_no h2)).mono ?_;rintro e w2 ⟨rfl,hC,hF⟩;have C2:Hid _:=hC;clear hC hF)
       |(go_at_call 28;refine (C0.out.got (bool_no h1) (got_no h1)).mono ?_;rintro e w1 ⟨rfl,hC,hF⟩;have C1:Hid _:=hC;clear hC hF))
      go_returns
      exact C6.out.done X_6.out rfl
     ·skip
      by_cases h6:isP E.zs E.T s {data:=#[102,111,114]}=true
      ·skip
       obtain ⟨s1,es1⟩:∃x,got E.zs E.T s {data:=#[102,111,114]}=x:=⟨_,rfl⟩
       have gs1:s1.at_=s.at_+1∧s1.bad=s.bad:=by rw [← es1];exact got_yes h6
       have bs1:=is_bad h6
       obtain ⟨s2,es2⟩:∃x,nameS E.zs E.T s1=x:=⟨_,rfl⟩
       obtain ⟨ts2,ets2⟩:∃x,nameT E.zs E.T s1=x:=⟨_,rfl⟩
       have gs2:(s2.at_=s1.at_+1∧s1.at_<E.T.length∧s1.bad<0∧s2.bad=s1.bad)∨(s2.at_=s1.at_∧0≤s2.bad):=by rw [← es2];exact name_f _ _ _
       obtain ⟨s3,es3⟩:∃x,want E.zs E.T s2 {data:=#[61]}=x:=⟨_,rfl⟩
       have gs3:(s3.at_=s2.at_+1∧s2.at_<E.T.length∧s2.bad<0∧s3.bad=s2.bad)∨(s3.at_=s2.at_∧0≤s3.bad):=by rw [← es3];exact want_f _ _ _ _
       obtain ⟨ls4,cs4,s4,Rs4,Ds4⟩:=A.bin 1 s3 (by omega) (by omega) (nd 0 5 6 rfl rfl (by omega))
       have gs4:s3.at_≤s4.at_∧(0≤s3.bad→0≤s4.bad):=⟨Rs4.2.1,Rs4.2.2.1⟩
       obtain ⟨s5,es5⟩:∃x,want E.zs E.T s4 {data:=#[44]}=x:=⟨_,rfl⟩
       have gs5:(s5.at_=s4.at_+1∧s4.at_<E.T.length∧s4.bad<0∧s5.bad=s4.bad)∨(s5.at_=s4.at_∧0≤s5.bad):=by rw [← es5];exact want_f _ _ _ _
       obtain ⟨ls6,cs6,s6,Rs6,Ds6⟩:=A.bin 1 s5 (by omega) (by omega) (nd 0 5 6 rfl rfl (by omega))
       have gs6:s5.at_≤s6.at_∧(0≤s5.bad→0≤s6.bad):=⟨Rs6.2.1,Rs6.2.2.1⟩
       by_cases hc:isP E.zs E.T s6 {data:=#[44]}=true
       ·skip
        obtain ⟨s7,es7⟩:∃x,got E.zs E.T s6 {data:=#[44]}=x:=⟨_,rfl⟩
        have gs7:s7.at_=s6.at_+1∧s7.bad=s6.bad:=by rw [← es7];exact got_yes hc
        have bs7:=is_bad hc
        obtain ⟨ls8,cs8,s8,Rs8,Ds8⟩:=A.bin 1 s7 (by omega) (by omega) (nd 0 5 6 rfl rfl (by omega))
        have gs8:s7.at_≤s8.at_∧(0≤s7.bad→0≤s8.bad):=⟨Rs8.2.1,Rs8.2.2.1⟩
        obtain ⟨s9,es9⟩:∃x,want E.zs E.T s8 {data:=#[100,111]}=x:=⟨_,rfl⟩
        have gs9:(s9.at_=s8.at_+1∧s8.at_<E.T.length∧s8.bad<0∧s9.bad=s8.bad)∨(s9.at_=s8.at_∧0≤s9.bad):=by rw [← es9];exact want_f _ _ _ _
        obtain ⟨ls10,cs10,ks10,Rs10,Ds10⟩:=A.blk {s9 with loop:=true} (by have nn:(0≤s9.bad∧need E.T 11 {s9 with loop:=true}=2)∨(s9.bad<0∧need E.T 11 {s9 with loop:=true}=20*(E.T.length-s9.at_)+11):=need_or E.T 11 {s9 with loop:=true};omega)
        obtain ⟨s10,es10⟩:∃x,({ks10 with loop:=s9.loop}:Ps)=x:=⟨_,rfl⟩
        have gs10:s9.at_≤s10.at_∧(0≤s9.bad→0≤s10.bad):=by rw [← es10];exact ⟨Rs10.2.1,Rs10.2.2.1⟩
        have D2s10:Nods E 62 ag1 s9 ls10 s10:=by rw [← es10];exact inLoop_any ok Ds10
        have Ts10:tot [ls10]≤20*(s10.at_-s9.at_)+10:=by rw [← es10];exact Rs10.2.2.2
        obtain ⟨s11,es11⟩:∃x,want E.zs E.T s10 {data:=#[101,110,100]}=x:=⟨_,rfl⟩
        have gs11:(s11.at_=s10.at_+1∧s10.at_<E.T.length∧s10.bad<0∧s11.bad=s10.bad)∨(s11.at_=s10.at_∧0≤s11.bad):=by rw [← es11];exact want_f _ _ _ _
        refine ⟨tk.node ⟨7,0,[],[ts2],0⟩ ([ls4]++[ls6]++[ls8]++[ls10]),0,s11,rs_of (by decide) hn0 (by rw [pz_13];unfold pB13;dsimp only;simp only [if_neg h1,if_neg h2,if_neg h3,if_neg h4,if_neg h5,if_pos h6,es1,es2,ets2,es3,Rs4.1,es5,Rs6.1,if_pos hc,es7,Rs8.1,es9,Rs10.1,es10,es11]) (by decide),fun w g hP=>?_⟩
        have C0:Hid (Cur E w g no w s):=Cur.start ok hP
        have HRs4:Hid _:=Rs4
        have HDs4:Hid _:=Ds4
        have HRs6:Hid _:=Rs6
        have HDs6:Hid _:=Ds6
        have HRs8:Hid _:=Rs8
        have HDs8:Hid _:=Ds8
        have HD2s10:Hid _:=D2s10
        have HTs10:Hid _:=Ts10
        clear hP hn hn0 Rs4 Ds4 Rs6 Ds6 Rs8 Ds8 D2s10 Ts10 gs1 bs1 gs2 gs3 gs4 gs5 gs6 gs7 bs7 gs8 gs9 gs10 Ds10 Rs10 gs11
        unfold ag1
        go_enter Tryz.func33,Tryz.ntmps33
        go_wp2_with (first
         |(go_at_call 31;refine (C19.out.nodeK (n:=⟨7,0,[],[ts2],0⟩) K_19.out (rdV_nil _) (M_19.out) (by have h1:=tot_le HRs4.out C9.out;have h2:=tot_le HRs6.out C11.out;have h6:=tot_le HRs8.out C14.out;have h3:=HTs10.out;have h4:=C17.out.le;have h5:=C17.out.many;simp only [tot_app];omega) (by simp)).mono ?_;rintro e w20 ⟨a20,c20,rfl,hX,hC,hF⟩;have C20:Hid _:=hC;have N_20:Hid _:=hX;clear hC hF hX)
         |(go_at_call 61;refine (C18.out.want es11).mono ?_;rintro e w19 ⟨⟨v19,rfl⟩,hC,hF⟩;have C19:Hid _:=hC;have M_19:Hid _:=C18.out.rvv hF M_18.out;have B_19:Hid _:=C18.out.nc hF B_18.out;have K_19:Hid _:=C18.out.kids hF K_18.out;clear hC hF;have y0:w19.cell? ⟨w7.heap.size+1,0,none⟩=some (.int .i64 7):=NC.at B_19.out 0 rfl;have y1:w19.cell? ⟨w7.heap.size+1,1,none⟩=some (.int .i64 0):=NC.at B_19.out 1 rfl;have y2:w19.cell? ⟨w7.heap.size+1,2,none⟩=some (.slice none 0 0):=NC.at B_19.out 2 rfl;have y3:w19.cell? ⟨w7.heap.size+1,3,none⟩=some (.slice (some ⟨w7.heap.size,0,none⟩) 1 1):=NC.at B_19.out 3 rfl;have y4:w19.cell? ⟨w7.heap.size+1,4,none⟩=some (.int .i64 0):=NC.at B_19.out 4 rfl)
         |(at_builtin;refine wpList_kid rfl _ _ rfl C17.out _ rfl rfl rfl K_17.out (by simp) Z_17.out (by first|omega|(simp;done)|(simp;omega)) ?_;intro a18 c18 w18 Q18 hK hC hM;have C18:Hid _:=hC;have K_18:Hid _:=hK;have M_18:Hid _:=hM.rvv M_17.out;have B_18:Hid _:=hM.nc B_17.out;clear hC hK hM)
         |(go_at_call 62;refine (C16.out.call HD2s10.out).mono ?_;rintro e w17 ⟨a17,c17,rfl,hX,hC,hF⟩;have C17:Hid _:=hC;have M_17:Hid _:=C16.out.rvv hF M_16.out;have B_17:Hid _:=C16.out.nc hF B_16.out;have K_17:Hid _:=C16.out.kids hF K_16.out;have Z_17:Hid _:=hX;clear hC hF hX)
         |(go_at_call 61;refine (C15.out.want es9).mono ?_;rintro e w16 ⟨⟨v16,rfl⟩,hC,hF⟩;have C16:Hid _:=hC;have M_16:Hid _:=C15.out.rvv hF M_15.out;have B_16:Hid _:=C15.out.nc hF B_15.out;have K_16:Hid _:=C15.out.kids hF K_15.out;clear hC hF)
         |(at_builtin;refine wpList_kid rfl _ _ rfl C14.out _ rfl rfl rfl K_14.out (by simp) Y_14.out (by first|omega|(simp;done)|(simp;omega)) ?_;intro a15 c15 w15 Q15 hK hC hM;have C15:Hid _:=hC;have K_15:Hid _:=hK;have M_15:Hid _:=hM.rvv M_14.out;have B_15:Hid _:=hM.nc B_14.out;clear hC hK hM)
         |(go_at_call 57;refine (C13.out.call HDs8.out).mono ?_;rintro e w14 ⟨a14,c14,rfl,hX,hC,hF⟩;have C14:Hid _:=hC;have M_14:Hid _:=C13.out.rvv hF M_13.out;have B_14:Hid _:=C13.out.nc hF B_13.out;have K_14:Hid _:=C13.out.kids hF K_13.out;have Y_14:Hid _:=hX;clear hC hF hX)
         |(go_at_call 28;refine (C12.out.got hc es7).mono ?_;rintro e w13 ⟨rfl,hC,hF⟩;have C13:Hid _:=hC;have M_13:Hid _:=C12.out.rvv hF M_12.out;have B_13:Hid _:=C12.out.nc hF B_12.out;have K_13:Hid _:=C12.out.kids hF K_12.out;clear hC hF)
         |(at_builtin;refine wpList_kid rfl _ _ rfl C11.out _ rfl rfl rfl K_11.out (by simp) Y_11.out (by first|omega|(simp;done)|(simp;omega)) ?_;intro a12 c12 w12 Q12 hK hC hM;have C12:Hid _:=hC;have K_12:Hid _:=hK;have M_12:Hid _:=hM.rvv M_11.out;have B_12:Hid _:=hM.nc B_11.out;clear hC hK hM)
         |(go_at_call 57;refine (C10.out.call HDs6.out).mono ?_;rintro e w11 ⟨a11,c11,rfl,hX,hC,hF⟩;have C11:Hid _:=hC;have M_11:Hid _:=C10.out.rvv hF M_10.out;have B_11:Hid _:=C10.out.nc hF B_10.out;have K_11:Hid _:=C10.out.kids hF K_10.out;have Y_11:Hid _:=hX;clear hC hF hX)
         |(go_at_call 61;obtain ⟨Ql9,hCl,hKl,hMl⟩:=C9.out.lit (kr_one X_9.out) rfl (by simp);have CL9:Hid _:=hCl;have K_L9:Hid _:=hKl;have M_L9:Hid _:=hMl.rvv M_9.out;have B_L9:Hid _:=hMl.nc B_9.out;clear hCl hKl hMl;refine (CL9.out.want es5).mono ?_;rintro e w10 ⟨⟨v10,rfl⟩,hC,hF⟩;have C10:Hid _:=hC;have M_10:Hid _:=CL9.out.rvv hF M_L9.out;have B_10:Hid _:=CL9.out.nc hF B_L9.out;have K_10:Hid _:=CL9.out.kids hF K_L9.out;clear hC hF)
         |(go_at_call 57;refine (C8.out.call HDs4.out).mono ?_;rintro e w9 ⟨a9,c9,rfl,hX,hC,hF⟩;have C9:Hid _:=hC;have M_9:Hid _:=C8.out.rvv hF M_8.out;have B_9:Hid _:=C8.out.nc hF B_8.out;have X_9:Hid _:=hX;clear hC hF hX)
         |(go_at_call 61;obtain ⟨hCa,hFa⟩:=C7.out.bel (bel_two w7 (.cells #[.slice a7 ts2.length c7] 22) (.cells #[.int .i64 7,.int .i64 0,.slice none 0 0,.slice (some ⟨w7.heap.size,0,none⟩) 1 1,.int .i64 0] 61));have M_L7:Hid (RdVV (veil (hd w no) ((w7.alloc (.cells #[.slice a7 ts2.length c7] 22)).alloc (.cells #[.int .i64 7,.int .i64 0,.slice none 0 0,.slice (some ⟨w7.heap.size,0,none⟩) 1 1,.int .i64 0] 61))) (.slice (some ⟨w7.heap.size,0,none⟩) 1 1) [ts2]):=RdVV.up (rdVV_one (C7.out.new (Nat.le_refl _)) V_7.out) (up_alloc _ _ _);have B_L7:Hid (NC (hd w no) ((w7.alloc (.cells #[.slice a7 ts2.length c7] 22)).alloc (.cells #[.int .i64 7,.int .i64 0,.slice none 0 0,.slice (some ⟨w7.heap.size,0,none⟩) 1 1,.int .i64 0] 61)) (w7.heap.size+1) [.int .i64 7,.int .i64 0,.slice none 0 0,.slice (some ⟨w7.heap.size,0,none⟩) 1 1,.int .i64 0]):=nc_two (us:=[.slice a7 ts2.length c7]) (fun b hb=>C7.out.new hb);have CL7:Hid (Cur E w g no ((w7.alloc (.cells #[.slice a7 ts2.length c7] 22)).alloc (.cells #[.int .i64 7,.int .i64 0,.slice none 0 0,.slice (some ⟨w7.heap.size,0,none⟩) 1 1,.int .i64 0] 61)) s2):=hCa;clear hCa hFa;refine (CL7.out.want es3).mono ?_;rintro e w8 ⟨⟨v8,rfl⟩,hC,hF⟩;have C8:Hid _:=hC;have M_8:Hid _:=CL7.out.rvv hF M_L7.out;have B_8:Hid _:=CL7.out.nc hF B_L7.out;clear hC hF)
         |(go_at_call 58;refine (C6.out.name ets2 es2).mono ?_;rintro e w7 ⟨a7,c7,rfl,hX,hC,hF⟩;have C7:Hid _:=hC;have V_7:Hid _:=hX;clear hC hF hX)
         |(go_at_call 28;refine (C5.out.got h6 es1).mono ?_;rintro e w6 ⟨rfl,hC,hF⟩;have C6:Hid _:=hC;clear hC hF)
         |(go_at_call 28;refine (C4.out.got (bool_no h5) (got_no h5)).mono ?_;rintro e w5 ⟨rfl,hC,hF⟩;have C5:Hid _:=hC;clear hC hF)
         |(go_at_call 28;refine (C3.out.got (bool_no h4) (got_no h4)).mono ?_;rintro e w4 ⟨rfl,hC,hF⟩;have C4:Hid _:=hC;clear hC hF)
         |(go_at_call 28;refine (C2.out.got (bool_no h3) (got_no h3)).mono ?_;rintro e w3 ⟨rfl,hC,hF⟩;have C3:Hid _:=hC;clear hC hF)
         |(go_at_call 28;refine (C1.out.got (bool_no h2) (got_no h2)).mono ?_;rintro e w2 ⟨rfl,hC,hF⟩;have C2:Hid _:=hC;clear hC hF)
         |(go_at_call 28;refine (C0.out.got (bool_no h1) (got_no h1)).mono ?_;rintro e w1 ⟨rfl,hC,hF⟩;have C1:Hid _:=hC;clear hC hF))
        go_returns
        exact C20.out.done N_20.out rfl
       ·skip
        obtain ⟨s7,es7⟩:∃x,want E.zs E.T s6 {data:=#[100,111]}=x:=⟨_,rfl⟩
        have gs7:(s7.at_=s6.at_+1∧s6.at_<E.T.length∧s6.bad<0∧s7.bad=s6.bad)∨(s7.at_=s6.at_∧0≤s7.bad):=by rw [← es7];exact want_f _ _ _ _
        obtain ⟨ls8,cs8,ks8,Rs8,Ds8⟩:=A.blk {s7 with loop:=true} (by have nn:(0≤s7.bad∧need E.T 11 {s7 with loop:=true}=2)∨(s7.bad<0∧need E.T 11 {s7 with loop:=true}=20*(E.T.length-s7.at_)+11):=need_or E.T 11 {s7 with loop:=true};omega)
        obtain ⟨s8,es8⟩:∃x,({ks8 with loop:=s7.loop}:Ps)=x:=⟨_,rfl⟩
        have gs8:s7.at_≤s8.at_∧(0≤s7.bad→0≤s8.bad):=by rw [← es8];exact ⟨Rs8.2.1,Rs8.2.2.1⟩
        have D2s8:Nods E 62 ag1 s7 ls8 s8:=by rw [← es8];exact inLoop_any ok Ds8
        have Ts8:tot [ls8]≤20*(s8.at_-s7.at_)+10:=by rw [← es8];exact Rs8.2.2.2
        obtain ⟨s9,es9⟩:∃x,want E.zs E.T s8 {data:=#[101,110,100]}=x:=⟨_,rfl⟩
        have gs9:(s9.at_=s8.at_+1∧s8.at_<E.T.length∧s8.bad<0∧s9.bad=s8.bad)∨(s9.at_=s8.at_∧0≤s9.bad):=by rw [← es9];exact want_f _ _ _ _
        refine ⟨tk.node ⟨7,0,[],[ts2],0⟩ ([ls4]++[ls6]++[ls8]),0,s9,rs_of (by decide) hn0 (by rw [pz_13];unfold pB13;dsimp only;simp only [if_neg h1,if_neg h2,if_neg h3,if_neg h4,if_neg h5,if_pos h6,es1,es2,ets2,es3,Rs4.1,es5,Rs6.1,if_neg hc,List.append_nil,es7,Rs8.1,es8,es9]) (by decide),fun w g hP=>?_⟩
        have C0:Hid (Cur E w g no w s):=Cur.start ok hP
        have HRs4:Hid _:=Rs4
        have HDs4:Hid _:=Ds4
        have HRs6:Hid _:=Rs6
        have HDs6:Hid _:=Ds6
        have HD2s8:Hid _:=D2s8
        have HTs8:Hid _:=Ts8
        clear hP hn hn0 Rs4 Ds4 Rs6 Ds6 D2s8 Ts8 gs1 bs1 gs2 gs3 gs4 gs5 gs6 gs7 gs8 Ds8 Rs8 gs9
        unfold ag1
        go_enter Tryz.func33,Tryz.ntmps33
        go_wp2_with (first
         |(go_at_call 31;refine (C17.out.nodeK (n:=⟨7,0,[],[ts2],0⟩) K_17.out (rdV_nil _) (M_17.out) (by have h1:=tot_le HRs4.out C9.out;have h2:=tot_le HRs6.out C11.out;have h3:=HTs8.out;have h4:=C15.out.le;have h5:=C15.out.many;simp only [tot_app];omega) (by simp)).mono ?_;rintro e w18 ⟨a18,c18,rfl,hX,hC,hF⟩;have C18:Hid _:=hC;have N_18:Hid _:=hX;clear hC hF hX)
         |(go_at_call 61;refine (C16.out.want es9).mono ?_;rintro e w17 ⟨⟨v17,rfl⟩,hC,hF⟩;have C17:Hid _:=hC;have M_17:Hid _:=C16.out.rvv hF M_16.out;have B_17:Hid _:=C16.out.nc hF B_16.out;have K_17:Hid _:=C16.out.kids hF K_16.out;clear hC hF;have y0:w17.cell? ⟨w7.heap.size+1,0,none⟩=some (.int .i64 7):=NC.at B_17.out 0 rfl;have y1:w17.cell? ⟨w7.heap.size+1,1,none⟩=some (.int .i64 0):=NC.at B_17.out 1 rfl;have y2:w17.cell? ⟨w7.heap.size+1,2,none⟩=some (.slice none 0 0):=NC.at B_17.out 2 rfl;have y3:w17.cell? ⟨w7.heap.size+1,3,none⟩=some (.slice (some ⟨w7.heap.size,0,none⟩) 1 1):=NC.at B_17.out 3 rfl;have y4:w17.cell? ⟨w7.heap.size+1,4,none⟩=some (.int .i64 0):=NC.at B_17.out 4 rfl)
         |(at_builtin;refine wpList_kid rfl _ _ rfl C15.out _ rfl rfl rfl K_15.out (by simp) Z_15.out (by first|omega|(simp;done)|(simp;omega)) ?_;intro a16 c16 w16 Q16 hK hC hM;have C16:Hid _:=hC;have K_16:Hid _:=hK;have M_16:Hid _:=hM.rvv M_15.out;have B_16:Hid _:=hM.nc B_15.out;clear hC hK hM)
         |(go_at_call 62;refine (C14.out.call HD2s8.out).mono ?_;rintro e w15 ⟨a15,c15,rfl,hX,hC,hF⟩;have C15:Hid _:=hC;have M_15:Hid _:=C14.out.rvv hF M_14.out;have B_15:Hid _:=C14.out.nc hF B_14.out;have K_15:Hid _:=C14.out.kids hF K_14.out;have Z_15:Hid _:=hX;clear hC hF hX)
         |(go_at_call 61;refine (C13.out.want es7).mono ?_;rintro e w14 ⟨⟨v14,rfl⟩,hC,hF⟩;have C14:Hid _:=hC;have M_14:Hid _:=C13.out.rvv hF M_13.out;have B_14:Hid _:=C13.out.nc hF B_13.out;have K_14:Hid _:=C13.out.kids hF K_13.out;clear hC hF)
         |(go_at_call 28;refine (C12.out.got (bool_no hc) (got_no hc)).mono ?_;rintro e w13 ⟨rfl,hC,hF⟩;have C13:Hid _:=hC;have M_13:Hid _:=C12.out.rvv hF M_12.out;have B_13:Hid _:=C12.out.nc hF B_12.out;have K_13:Hid _:=C12.out.kids hF K_12.out;clear hC hF)
         |(at_builtin;refine wpList_kid rfl _ _ rfl C11.out _ rfl rfl rfl K_11.out (by simp) Y_11.out (by first|omega|(simp;done)|(simp;omega)) ?_;intro a12 c12 w12 Q12 hK hC hM;have C12:Hid _:=hC;have K_12:Hid _:=hK;have M_12:Hid _:=hM.rvv M_11.out;have B_12:Hid _:=hM.nc B_11.out;clear hC hK hM)
         |(go_at_call 57;refine (C10.out.call HDs6.out).mono ?_;rintro e w11 ⟨a11,c11,rfl,hX,hC,hF⟩;have C11:Hid _:=hC;have M_11:Hid _:=C10.out.rvv hF M_10.out;have B_11:Hid _:=C10.out.nc hF B_10.out;have K_11:Hid _:=C10.out.kids hF K_10.out;have Y_11:Hid _:=hX;clear hC hF hX)
         |(go_at_call 61;obtain ⟨Ql9,hCl,hKl,hMl⟩:=C9.out.lit (kr_one X_9.out) rfl (by simp);have CL9:Hid _:=hCl;have K_L9:Hid _:=hKl;have M_L9:Hid _:=hMl.rvv M_9.out;have B_L9:Hid _:=hMl.nc B_9.out;clear hCl hKl hMl;refine (CL9.out.want es5).mono ?_;rintro e w10 ⟨⟨v10,rfl⟩,hC,hF⟩;have C10:Hid _:=hC;have M_10:Hid _:=CL9.out.rvv hF M_L9.out;have B_10:Hid _:=CL9.out.nc hF B_L9.out;have K_10:Hid _:=CL9.out.kids hF K_L9.out;clear hC hF)
         |(go_at_call 57;refine (C8.out.call HDs4.out).mono ?_;rintro e w9 ⟨a9,c9,rfl,hX,hC,hF⟩;have C9:Hid _:=hC;have M_9:Hid _:=C8.out.rvv hF M_8.out;have B_9:Hid _:=C8.out.nc hF B_8.out;have X_9:Hid _:=hX;clear hC hF hX)
         |(go_at_call 61;obtain ⟨hCa,hFa⟩:=C7.out.bel (bel_two w7 (.cells #[.slice a7 ts2.length c7] 22) (.cells #[.int .i64 7,.int .i64 0,.slice none 0 0,.slice (some ⟨w7.heap.size,0,none⟩) 1 1,.int .i64 0] 61));have M_L7:Hid (RdVV (veil (hd w no) ((w7.alloc (.cells #[.slice a7 ts2.length c7] 22)).alloc (.cells #[.int .i64 7,.int .i64 0,.slice none 0 0,.slice (some ⟨w7.heap.size,0,none⟩) 1 1,.int .i64 0] 61))) (.slice (some ⟨w7.heap.size,0,none⟩) 1 1) [ts2]):=RdVV.up (rdVV_one (C7.out.new (Nat.le_refl _)) V_7.out) (up_alloc _ _ _);have B_L7:Hid (NC (hd w no) ((w7.alloc (.cells #[.slice a7 ts2.length c7] 22)).alloc (.cells #[.int .i64 7,.int .i64 0,.slice none 0 0,.slice (some ⟨w7.heap.size,0,none⟩) 1 1,.int .i64 0] 61)) (w7.heap.size+1) [.int .i64 7,.int .i64 0,.slice none 0 0,.slice (some ⟨w7.heap.size,0,none⟩) 1 1,.int .i64 0]):=nc_two (us:=[.slice a7 ts2.length c7]) (fun b hb=>C7.out.new hb);have CL7:Hid (Cur E w g no ((w7.alloc (.cells #[.slice a7 ts2.length c7] 22)).alloc (.cells #[.int .i64 7,.int .i64 0,.slice none 0 0,.slice (some ⟨w7.heap.size,0,none⟩) 1 1,.int .i64 0] 61)) s2):=hCa;clear hCa hFa;refine (CL7.out.want es3).mono ?_;rintro e w8 ⟨⟨v8,rfl⟩,hC,hF⟩;have C8:Hid _:=hC;have M_8:Hid _:=CL7.out.rvv hF M_L7.out;have B_8:Hid _:=CL7.out.nc hF B_L7.out;clear hC hF)
         |(go_at_call 58;refine (C6.out.name ets2 es2).mono ?_;rintro e w7 ⟨a7,c7,rfl,hX,hC,hF⟩;have C7:Hid _:=hC;have V_7:Hid _:=hX;clear hC hF hX)
         |(go_at_call 28;refine (C5.out.got h6 es1).mono ?_;rintro e w6 ⟨rfl,hC,hF⟩;have C6:Hid _:=hC;clear hC hF)
         |(go_at_call 28;refine (C4.out.got (bool_no h5) (got_no h5)).mono ?_;rintro e w5 ⟨rfl,hC,hF⟩;have C5:Hid _:=hC;clear hC hF)
         |(go_at_call 28;refine (C3.out.got (bool_no h4) (got_no h4)).mono ?_;rintro e w4 ⟨rfl,hC,hF⟩;have C4:Hid _:=hC;clear hC hF)
         |(go_at_call 28;refine (C2.out.got (bool_no h3) (got_no h3)).mono ?_;rintro e w3 ⟨rfl,hC,hF⟩;have C3:Hid _:=hC;clear hC hF)
         |(go_at_call 28;refine (C1.out.got (bool_no h2) (got_no h2)).mono ?_;rintro e w2 ⟨rfl,hC,hF⟩;have C2:Hid _:=hC;clear hC hF)
         |(go_at_call 28;refine (C0.out.got (bool_no h1) (got_no h1)).mono ?_;rintro e w1 ⟨rfl,hC,hF⟩;have C1:Hid _:=hC;clear hC hF))
        go_returns
        exact C18.out.done N_18.out rfl
      ·skip
       obtain ⟨ls1,cs1,s1,Rs1,Ds1⟩:=A.oth s (nd 16 3 8 rfl rfl (by omega))
       have gs1:s.at_≤s1.at_∧(0≤s.bad→0≤s1.bad):=⟨Rs1.2.1,Rs1.2.2.1⟩
       refine ⟨ls1,cs1,s1,rs_of (by decide) hn0 (by rw [pz_13];unfold pB13;dsimp only;simp only [if_neg h1,if_neg h2,if_neg h3,if_neg h4,if_neg h5,if_neg h6,Rs1.1]) (by decide),fun w g hP=>?_⟩
       have C0:Hid (Cur E w g no w s):=Cur.start ok hP
       have HRs1:Hid _:=Rs1
       have HDs1:Hid _:=Ds1
       clear hP hn hn0 Rs1 Ds1 gs1
       unfold ag1
       go_enter Tryz.func33,Tryz.ntmps33
       go_wp2_with (first
        |(go_at_call 64;refine (C6.out.call HDs1.out).mono ?_;rintro e w7 ⟨a7,c7,rfl,hX,hC,hF⟩;have C7:Hid _:=hC;have X_7:Hid _:=hX;clear hC hF hX)
        |(go_at_call 28;refine (C5.out.got (bool_no h6) (got_no h6)).mono ?_;rintro e w6 ⟨rfl,hC,hF⟩;have C6:Hid _:=hC;clear hC hF)
        |(go_at_call 28;refine (C4.out.got (bool_no h5) (got_no h5)).mono ?_;rintro e w5 ⟨rfl,hC,hF⟩;have C5:Hid _:=hC;clear hC hF)
        |(go_at_call 28;refine (C3.out.got (bool_no h4) (got_no h4)).mono ?_;rintro e w4 ⟨rfl,hC,hF⟩;have C4:Hid _:=hC;clear hC hF)
        |(go_at_call 28;refine (C2.out.got (bool_no h3) (got_no h3)).mono ?_;rintro e w3 ⟨rfl,hC,hF⟩;have C3:Hid _:=hC;clear hC hF)
        |(go_at_call 28;refine (C1.out.got (bool_no h2) (got_no h2)).mono ?_;rintro e w2 ⟨rfl,hC,hF⟩;have C2:Hid _:=hC;clear hC hF)
        |(go_at_call 28;refine (C0.out.got (bool_no h1) (got_no h1)).mono ?_;rintro e w1 ⟨rfl,hC,hF⟩;have C1:Hid _:=hC;clear hC hF))
       go_returns
       exact C7.out.done X_7.out rfl
end ps
end Go.Proofs.YtkmiagkehcflnaaGreatDoor
