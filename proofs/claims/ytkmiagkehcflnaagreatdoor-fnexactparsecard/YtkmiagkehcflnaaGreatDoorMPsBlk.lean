import Derived.Test.YtkmiagkehcflnaaGreatDoorMPsFunc
import Derived.Test.YtkmiagkehcflnaaGreatDoorMPsEnds
set_option maxRecDepth 100000
set_option maxHeartbeats 8000000
namespace Go.Proofs.YtkmiagkehcflnaaGreatDoor
namespace ps
open Go.RowKit bts nod lex tk
theorem iff_next {E:En} (ok:E.ok) {f:Nat} (AA:∀m,m≤f→Al E m) (s:Ps) (hn0:need E.T 14 s≤f+1):∃l c s',Rs E (f+1) 14 0 s [l] c s'∧Nods E 63 ag1 s l s':=by
 have hn:(0≤s.bad∧6≤f+1)∨(s.bad<0∧20*(E.T.length-s.at_)+8≤f+1):=nx hn0 rfl rfl
 have A:=AA f (Nat.le_refl _)
 obtain ⟨ls1,cs1,s1,Rs1,Ds1⟩:=A.bin 1 s (by omega) (by omega) (nd 0 5 6 rfl rfl (by omega))
 have gs1:s.at_≤s1.at_∧(0≤s.bad→0≤s1.bad):=⟨Rs1.2.1,Rs1.2.2.1⟩
 obtain ⟨s2,es2⟩:∃x,want E.zs E.T s1 {data:=#[116,104,101,110]}=x:=⟨_,rfl⟩
 have gs2:(s2.at_=s1.at_+1∧s1.at_<E.T.length∧s1.bad<0∧s2.bad=s1.bad)∨(s2.at_=s1.at_∧0≤s2.bad):=by rw [← es2];exact want_f _ _ _ _
 obtain ⟨ls3,cs3,s3,Rs3,Ds3⟩:=A.blk s2 (nd 11 2 11 rfl rfl (by omega))
 have gs3:s2.at_≤s3.at_∧(0≤s2.bad→0≤s3.bad):=⟨Rs3.2.1,Rs3.2.2.1⟩
 have nY:need E.T 15 s3≤f:=(nd 15 1 2 rfl rfl (by omega))
 obtain ⟨Y,hY⟩:∃Y,pz E.zs E.T f 15 (0) ([ls1]++[ls3]) s3=Y:=⟨_,rfl⟩
 have GY:=pz_gd E.zs E.T f 15 (0) ([ls1]++[ls3]) s3 (by decide) nY
 rw [hY] at GY
 obtain ⟨ys,cy,sy⟩:=Y
 have gY:s3.at_≤sy.at_∧(0≤s3.bad→0≤sy.bad):=⟨GY.1,GY.2.1⟩
 clear GY
 have tY:tot ([ls1]++[ls3])≤20*s3.at_+20:=by have:=Rs1.2.2.2;have:=Rs3.2.2.2;rw [tot_app];omega
 by_cases he:isP E.zs E.T sy {data:=#[101,108,115,101]}=true
 ·skip
  obtain ⟨s21,es21⟩:∃x,got E.zs E.T sy {data:=#[101,108,115,101]}=x:=⟨_,rfl⟩
  have gs21:s21.at_=sy.at_+1∧s21.bad=sy.bad:=by rw [← es21];exact got_yes he
  have bs21:=is_bad he
  obtain ⟨ls22,cs22,s22,Rs22,Ds22⟩:=A.blk s21 (nd 11 2 11 rfl rfl (by omega))
  have gs22:s21.at_≤s22.at_∧(0≤s21.bad→0≤s22.bad):=⟨Rs22.2.1,Rs22.2.2.1⟩
  obtain ⟨s23,es23⟩:∃x,want E.zs E.T s22 {data:=#[101,110,100]}=x:=⟨_,rfl⟩
  have gs23:(s23.at_=s22.at_+1∧s22.at_<E.T.length∧s22.bad<0∧s23.bad=s22.bad)∨(s23.at_=s22.at_∧0≤s23.bad):=by rw [← es23];exact want_f _ _ _ _
  refine ⟨tk.node (bare 6) (ys++[ls22]),0,s23,rs_of (by decide) hn0 (by rw [pz_14];unfold pB14;dsimp only;simp only [Rs1.1,es2,Rs3.1,if_pos he,es21,Rs22.1,es23,hY]) (by decide),fun w g hP=>?_⟩
  have C0:Hid (Cur E w g no w s):=Cur.start ok hP
  have HRs1:Hid _:=Rs1
  have HDs1:Hid _:=Ds1
  have HRs3:Hid _:=Rs3
  have HDs3:Hid _:=Ds3
  have HRs22:Hid _:=Rs22
  have HDs22:Hid _:=Ds22
  have HY:Hid (pz E.zs E.T f 15 0 ([ls1]++[ls3]) s3=(ys,cy,sy)∧need E.T 15 s3≤f∧tot ([ls1]++[ls3])≤20*s3.at_+20):=⟨hY,nY,tY⟩
  have HA:Hid (∀m,m≤f→Al E m):=AA
  have HM:E.T.length≤6000:=ok.many
  clear hP hn hn0 AA A hY nY tY gY Rs1 Ds1 Rs3 Ds3 Rs22 Ds22 gs1 gs2 gs3 gs21 bs21 gs22 gs23
  unfold ag1
  go_enter Tryz.func63,Tryz.ntmps63
  go_wp2_with (first
   |(at_builtin;refine wpList_kid rfl _ _ rfl C3.out _ rfl rfl rfl K_3.out (by simp) Z_3.out (by first|omega|(simp;done)|(simp;omega)) ?_;intro a4 c4 w4 Q4 hK hC hM;have C4:Hid _:=hC;have K_4:Hid _:=hK;clear hC hK hM)
   |(go_at_call 13;refine (C2.out.call HDs3.out).mono ?_;rintro e w3 ⟨a3,c3,rfl,hX,hC,hF⟩;have C3:Hid _:=hC;have K_3:Hid _:=C2.out.kids hF K_2.out;have Z_3:Hid _:=hX;clear hC hF hX)
   |(go_at_call 61;obtain ⟨Ql1,hCl,hKl,hMl⟩:=C1.out.lit (kr_one X_1.out) rfl (by simp);have CL1:Hid _:=hCl;have K_L1:Hid _:=hKl;clear hCl hKl hMl;refine (CL1.out.want es2).mono ?_;rintro e w2 ⟨⟨v2,rfl⟩,hC,hF⟩;have C2:Hid _:=hC;have K_2:Hid _:=CL1.out.kids hF K_L1.out;clear hC hF)
   |(go_at_call 57;refine (C0.out.call HDs1.out).mono ?_;rintro e w1 ⟨a1,c1,rfl,hX,hC,hF⟩;have C1:Hid _:=hC;have X_1:Hid _:=hX;clear hC hF hX))
  go_loopw [3] (fun v wr=>∃(m:Nat) (ks:List (List Nd)) (q:Ps) (Q:Nat→Bool) (a:Option Addr) (c:Nat),v=.slice a ks.length c∧Hid (Kids w Q wr (.slice a ks.length c) ks)∧Hid (Cur E w g Q wr q)∧Hid (m≤f∧pz E.zs E.T m 15 0 ks q=(ys,cy,sy)∧need E.T 15 q≤m∧tot ks≤20*q.at_+20∧ks.length≤2*q.at_+2)) (fun _ wr=>msW E.T g wr)
  case atStart=>exact ⟨f,[ls1]++[ls3],s3,_,_,_,rfl,K_4,C4,⟨Nat.le_refl _,HY.out.1,HY.out.2.1,HY.out.2.2,by simp⟩⟩
  case round =>
   obtain ⟨m,ks,q,Q,a,c,rfl,K_10,C10,H3⟩:=hrel
   obtain ⟨hm,hpz,hnd,htot,hkl⟩:=H3.out
   have hms:=C10.out.ms
   have hq6:=C10.out.le
   cases m with
   |zero=>have:=need_pos E.T 15 q (by decide) (by decide);omega
   |succ m =>
    rw [pz_15] at hpz
    unfold pB15 at hpz
    by_cases h:isP E.zs E.T q {data:=#[101,108,115,101,105,102]}=true
    ·rw [if_pos h] at hpz
     dsimp only at hpz
     have nn:(0≤q.bad∧1≤m+1)∨(q.bad<0∧20*(E.T.length-q.at_)+2≤m+1):=by
      rcases need_or E.T 15 q with ⟨a,b⟩|⟨a,b⟩
      ·exact .inl ⟨a,by rw [b] at hnd;exact hnd⟩
      ·exact .inr ⟨a,by rw [b] at hnd;exact hnd⟩
     obtain ⟨s41,es41⟩:∃x,got E.zs E.T q {data:=#[101,108,115,101,105,102]}=x:=⟨_,rfl⟩
     have gs41:s41.at_=q.at_+1∧s41.bad=q.bad:=by rw [← es41];exact got_yes h
     have bs41:=is_bad h
     obtain ⟨ls42,cs42,s42,Rs42,Ds42⟩:=(HA.out m (by omega)).bin 1 s41 (by omega) (by omega) (nd 0 5 6 rfl rfl (by omega))
     have gs42:s41.at_≤s42.at_∧(0≤s41.bad→0≤s42.bad):=⟨Rs42.2.1,Rs42.2.2.1⟩
     obtain ⟨s43,es43⟩:∃x,want E.zs E.T s42 {data:=#[116,104,101,110]}=x:=⟨_,rfl⟩
     have gs43:(s43.at_=s42.at_+1∧s42.at_<E.T.length∧s42.bad<0∧s43.bad=s42.bad)∨(s43.at_=s42.at_∧0≤s43.bad):=by rw [← es43];exact want_f _ _ _ _
     obtain ⟨ls44,cs44,s44,Rs44,Ds44⟩:=(HA.out m (by omega)).blk s43 (nd 11 2 11 rfl rfl (by omega))
     have gs44:s43.at_≤s44.at_∧(0≤s43.bad→0≤s44.bad):=⟨Rs44.2.1,Rs44.2.2.1⟩
     simp only [es41,Rs42.1,es43,Rs44.1] at hpz
     have HN:Hid (m≤f∧pz E.zs E.T m 15 0 (ks++[ls42]++[ls44]) s44=(ys,cy,sy)∧need E.T 15 s44≤m∧tot (ks++[ls42]++[ls44])≤20*s44.at_+20∧(ks++[ls42]++[ls44]).length≤2*s44.at_+2∧q.at_<s44.at_):=⟨by omega,hpz,(nd 15 1 2 rfl rfl (by omega)),by have:=Rs42.2.2.2;have:=Rs44.2.2.2;rw [tot_app,tot_app];omega,by simp;omega,by omega⟩
     have hl9:ks.length≤12002:=by omega
     have HRs42:Hid _:=Rs42
     have HDs42:Hid _:=Ds42
     have HRs44:Hid _:=Rs44
     have HDs44:Hid _:=Ds44
     clear hpz nn hnd htot H3 Rs42 Ds42 Rs44 Ds44 gs41 bs41 gs42 gs43 gs44
     go_wp2_with (first
      |(at_builtin;refine wpList_kid rfl _ _ rfl C15.out _ rfl rfl rfl K_15.out (by simp) Z_15.out (by first|omega|(simp;done)|(simp;omega)) ?_;intro a16 c16 w16 Q16 hK hC hM;have C16:Hid _:=hC;have K_16:Hid _:=hK;clear hC hK hM)
      |(go_at_call 13;refine (C14.out.call HDs44.out).mono ?_;rintro e w15 ⟨a15,c15,rfl,hX,hC,hF⟩;have C15:Hid _:=hC;have K_15:Hid _:=C14.out.kids hF K_14.out;have Z_15:Hid _:=hX;clear hC hF hX)
      |(go_at_call 61;refine (C13.out.want es43).mono ?_;rintro e w14 ⟨⟨v14,rfl⟩,hC,hF⟩;have C14:Hid _:=hC;have K_14:Hid _:=C13.out.kids hF K_13.out;clear hC hF)
      |(at_builtin;refine wpList_kid rfl _ _ rfl C12.out _ rfl rfl rfl K_12.out (by simp) X_12.out (by first|omega|(simp;done)|(simp;omega)) ?_;intro a13 c13 w13 Q13 hK hC hM;have C13:Hid _:=hC;have K_13:Hid _:=hK;clear hC hK hM)
      |(go_at_call 57;refine (C11.out.call HDs42.out).mono ?_;rintro e w12 ⟨a12,c12,rfl,hX,hC,hF⟩;have C12:Hid _:=hC;have K_12:Hid _:=C11.out.kids hF K_11.out;have X_12:Hid _:=hX;clear hC hF hX)
      |(go_at_call 28;refine (C10.out.got h es41).mono ?_;rintro e w11 ⟨rfl,hC,hF⟩;have C11:Hid _:=hC;have K_11:Hid _:=C10.out.kids hF K_10.out;clear hC hF))
     go_roundw
     case rel=>exact ⟨m,ks++[ls42]++[ls44],s44,Q16,a16,c16,by simp only [List.length_append];rfl,by simp only [List.length_append];exact K_16,C16,⟨HN.out.1,HN.out.2.1,HN.out.2.2.1,HN.out.2.2.2.1,HN.out.2.2.2.2.1⟩⟩
     case measure =>
      have:=C16.out.ms
      have:=C16.out.le
      have:=HN.out.2.2.2.2.2
      have:=ms_lt (T:=E.T) (s:=q) (s':=s44) (by omega) (by omega)
      omega
    ·rw [if_neg h] at hpz
     injection hpz with e1 e2
     injection e2 with e2 e3
     subst e1 e2 e3
     have HT:Hid (tot ks≤20*q.at_+20):=htot
     have hl9:ks.length≤12002:=by omega
     clear hnd htot H3
     go_wp2_with (first
      |(go_at_call 31;refine (C15.out.nodeK (n:=bare 6) K_15.out (rdV_nil _) (rdVV_nil _) (by have h1:=HT.out;have h2:=C10.out.le;have h3:=C10.out.many;have:=tot_le HRs22.out C13.out;(try rw [tot_app]);omega) (by first|omega|(simp;done)|(simp;omega))).mono ?_;rintro e w16 ⟨a16,c16,rfl,hX,hC,hF⟩;have C16:Hid _:=hC;have N_16:Hid _:=hX;clear hC hF hX)
      |(go_at_call 61;refine (C14.out.want es23).mono ?_;rintro e w15 ⟨⟨v15,rfl⟩,hC,hF⟩;have C15:Hid _:=hC;have K_15:Hid _:=C14.out.kids hF K_14.out;clear hC hF)
      |(at_builtin;refine wpList_kid rfl _ _ rfl C13.out _ rfl rfl rfl K_13.out (by simp) Z_13.out (by first|omega|(simp;done)|(simp;omega)) ?_;intro a14 c14 w14 Q14 hK hC hM;have C14:Hid _:=hC;have K_14:Hid _:=hK;clear hC hK hM)
      |(go_at_call 13;refine (C12.out.call HDs22.out).mono ?_;rintro e w13 ⟨a13,c13,rfl,hX,hC,hF⟩;have C13:Hid _:=hC;have K_13:Hid _:=C12.out.kids hF K_12.out;have Z_13:Hid _:=hX;clear hC hF hX)
      |(go_at_call 28;refine (C11.out.got he es21).mono ?_;rintro e w12 ⟨rfl,hC,hF⟩;have C12:Hid _:=hC;have K_12:Hid _:=C11.out.kids hF K_11.out;clear hC hF)
      |(go_at_call 28;refine (C10.out.got (bool_no h) (got_no h)).mono ?_;rintro e w11 ⟨rfl,hC,hF⟩;have C11:Hid _:=hC;have K_11:Hid _:=C10.out.kids hF K_10.out;clear hC hF))
     go_returns
     exact C16.out.done N_16.out rfl
 ·skip
  obtain ⟨s21,es21⟩:∃x,want E.zs E.T sy {data:=#[101,110,100]}=x:=⟨_,rfl⟩
  have gs21:(s21.at_=sy.at_+1∧sy.at_<E.T.length∧sy.bad<0∧s21.bad=sy.bad)∨(s21.at_=sy.at_∧0≤s21.bad):=by rw [← es21];exact want_f _ _ _ _
  refine ⟨tk.node (bare 6) (ys),0,s21,rs_of (by decide) hn0 (by rw [pz_14];unfold pB14;dsimp only;simp only [Rs1.1,es2,Rs3.1,if_neg he,es21,hY]) (by decide),fun w g hP=>?_⟩
  have C0:Hid (Cur E w g no w s):=Cur.start ok hP
  have HRs1:Hid _:=Rs1
  have HDs1:Hid _:=Ds1
  have HRs3:Hid _:=Rs3
  have HDs3:Hid _:=Ds3
  have HY:Hid (pz E.zs E.T f 15 0 ([ls1]++[ls3]) s3=(ys,cy,sy)∧need E.T 15 s3≤f∧tot ([ls1]++[ls3])≤20*s3.at_+20):=⟨hY,nY,tY⟩
  have HA:Hid (∀m,m≤f→Al E m):=AA
  have HM:E.T.length≤6000:=ok.many
  clear hP hn hn0 AA A hY nY tY gY Rs1 Ds1 Rs3 Ds3 gs1 gs2 gs3 gs21
  unfold ag1
  go_enter Tryz.func63,Tryz.ntmps63
  go_wp2_with (first
   |(at_builtin;refine wpList_kid rfl _ _ rfl C3.out _ rfl rfl rfl K_3.out (by simp) Z_3.out (by first|omega|(simp;done)|(simp;omega)) ?_;intro a4 c4 w4 Q4 hK hC hM;have C4:Hid _:=hC;have K_4:Hid _:=hK;clear hC hK hM)
   |(go_at_call 13;refine (C2.out.call HDs3.out).mono ?_;rintro e w3 ⟨a3,c3,rfl,hX,hC,hF⟩;have C3:Hid _:=hC;have K_3:Hid _:=C2.out.kids hF K_2.out;have Z_3:Hid _:=hX;clear hC hF hX)
   |(go_at_call 61;obtain ⟨Ql1,hCl,hKl,hMl⟩:=C1.out.lit (kr_one X_1.out) rfl (by simp);have CL1:Hid _:=hCl;have K_L1:Hid _:=hKl;clear hCl hKl hMl;refine (CL1.out.want es2).mono ?_;rintro e w2 ⟨⟨v2,rfl⟩,hC,hF⟩;have C2:Hid _:=hC;have K_2:Hid _:=CL1.out.kids hF K_L1.out;clear hC hF)
   |(go_at_call 57;refine (C0.out.call HDs1.out).mono ?_;rintro e w1 ⟨a1,c1,rfl,hX,hC,hF⟩;have C1:Hid _:=hC;have X_1:Hid _:=hX;clear hC hF hX))
  go_loopw [3] (fun v wr=>∃(m:Nat) (ks:List (List Nd)) (q:Ps) (Q:Nat→Bool) (a:Option Addr) (c:Nat),v=.slice a ks.length c∧Hid (Kids w Q wr (.slice a ks.length c) ks)∧Hid (Cur E w g Q wr q)∧Hid (m≤f∧pz E.zs E.T m 15 0 ks q=(ys,cy,sy)∧need E.T 15 q≤m∧tot ks≤20*q.at_+20∧ks.length≤2*q.at_+2)) (fun _ wr=>msW E.T g wr)
  case atStart=>exact ⟨f,[ls1]++[ls3],s3,_,_,_,rfl,K_4,C4,⟨Nat.le_refl _,HY.out.1,HY.out.2.1,HY.out.2.2,by simp⟩⟩
  case round =>
   obtain ⟨m,ks,q,Q,a,c,rfl,K_10,C10,H3⟩:=hrel
   obtain ⟨hm,hpz,hnd,htot,hkl⟩:=H3.out
   have hms:=C10.out.ms
   have hq6:=C10.out.le
   cases m with
   |zero=>have:=need_pos E.T 15 q (by decide) (by decide);omega
   |succ m =>
    rw [pz_15] at hpz
    unfold pB15 at hpz
    by_cases h:isP E.zs E.T q {data:=#[101,108,115,101,105,102]}=true
    ·rw [if_pos h] at hpz
     dsimp only at hpz
     have nn:(0≤q.bad∧1≤m+1)∨(q.bad<0∧20*(E.T.length-q.at_)+2≤m+1):=by
      rcases need_or E.T 15 q with ⟨a,b⟩|⟨a,b⟩
      ·exact .inl ⟨a,by rw [b] at hnd;exact hnd⟩
      ·exact .inr ⟨a,by rw [b] at hnd;exact hnd⟩
     obtain ⟨s41,es41⟩:∃x,got E.zs E.T q {data:=#[101,108,115,101,105,102]}=x:=⟨_,rfl⟩
     have gs41:s41.at_=q.at_+1∧s41.bad=q.bad:=by rw [← es41];exact got_yes h
     have bs41:=is_bad h
     obtain ⟨ls42,cs42,s42,Rs42,Ds42⟩:=(HA.out m (by omega)).bin 1 s41 (by omega) (by omega) (nd 0 5 6 rfl rfl (by omega))
     have gs42:s41.at_≤s42.at_∧(0≤s41.bad→0≤s42.bad):=⟨Rs42.2.1,Rs42.2.2.1⟩
     obtain ⟨s43,es43⟩:∃x,want E.zs E.T s42 {data:=#[116,104,101,110]}=x:=⟨_,rfl⟩
     have gs43:(s43.at_=s42.at_+1∧s42.at_<E.T.length∧s42.bad<0∧s43.bad=s42.bad)∨(s43.at_=s42.at_∧0≤s43.bad):=by rw [← es43];exact want_f _ _ _ _
     obtain ⟨ls44,cs44,s44,Rs44,Ds44⟩:=(HA.out m (by omega)).blk s43 (nd 11 2 11 rfl rfl (by omega))
     have gs44:s43.at_≤s44.at_∧(0≤s43.bad→0≤s44.bad):=⟨Rs44.2.1,Rs44.2.2.1⟩
     simp only [es41,Rs42.1,es43,Rs44.1] at hpz
     have HN:Hid (m≤f∧pz E.zs E.T m 15 0 (ks++[ls42]++[ls44]) s44=(ys,cy,sy)∧need E.T 15 s44≤m∧tot (ks++[ls42]++[ls44])≤20*s44.at_+20∧(ks++[ls42]++[ls44]).length≤2*s44.at_+2∧q.at_<s44.at_):=⟨by omega,hpz,(nd 15 1 2 rfl rfl (by omega)),by have:=Rs42.2.2.2;have:=Rs44.2.2.2;rw [tot_app,tot_app];omega,by simp;omega,by omega⟩
     have hl9:ks.length≤12002:=by omega
     have HRs42:Hid _:=Rs42
     have HDs42:Hid _:=Ds42
     have HRs44:Hid _:=Rs44
     have HDs44:Hid _:=Ds44
     clear hpz nn hnd htot H3 Rs42 Ds42 Rs44 Ds44 gs41 bs41 gs42 gs43 gs44
     go_wp2_with (first
      |(at_builtin;refine wpList_kid rfl _ _ rfl C15.out _ rfl rfl rfl K_15.out (by simp) Z_15.out (by first|omega|(simp;done)|(simp;omega)) ?_;intro a16 c16 w16 Q16 hK hC hM;have C16:Hid _:=hC;have K_16:Hid _:=hK;clear hC hK hM)
      |(go_at_call 13;refine (C14.out.call HDs44.out).mono ?_;rintro e w15 ⟨a15,c15,rfl,hX,hC,hF⟩;have C15:Hid _:=hC;have K_15:Hid _:=C14.out.kids hF K_14.out;have Z_15:Hid _:=hX;clear hC hF hX)
      |(go_at_call 61;refine (C13.out.want es43).mono ?_;rintro e w14 ⟨⟨v14,rfl⟩,hC,hF⟩;have C14:Hid _:=hC;have K_14:Hid _:=C13.out.kids hF K_13.out;clear hC hF)
      |(at_builtin;refine wpList_kid rfl _ _ rfl C12.out _ rfl rfl rfl K_12.out (by simp) X_12.out (by first|omega|(simp;done)|(simp;omega)) ?_;intro a13 c13 w13 Q13 hK hC hM;have C13:Hid _:=hC;have K_13:Hid _:=hK;clear hC hK hM)
      |(go_at_call 57;refine (C11.out.call HDs42.out).mono ?_;rintro e w12 ⟨a12,c12,rfl,hX,hC,hF⟩;have C12:Hid _:=hC;have K_12:Hid _:=C11.out.kids hF K_11.out;have X_12:Hid _:=hX;clear hC hF hX)
      |(go_at_call 28;refine (C10.out.got h es41).mono ?_;rintro e w11 ⟨rfl,hC,hF⟩;have C11:Hid _:=hC;have K_11:Hid _:=C10.out.kids hF K_10.out;clear hC hF))
     go_roundw
     case rel=>exact ⟨m,ks++[ls42]++[ls44],s44,Q16,a16,c16,by simp only [List.length_append];rfl,by simp only [List.length_append];exact K_16,C16,⟨HN.out.1,HN.out.2.1,HN.out.2.2.1,HN.out.2.2.2.1,HN.out.2.2.2.2.1⟩⟩
     case measure =>
      have:=C16.out.ms
      have:=C16.out.le
      have:=HN.out.2.2.2.2.2
      have:=ms_lt (T:=E.T) (s:=q) (s':=s44) (by omega) (by omega)
      omega
    ·rw [if_neg h] at hpz
     injection hpz with e1 e2
     injection e2 with e2 e3
     subst e1 e2 e3
     have HT:Hid (tot ks≤20*q.at_+20):=htot
     have hl9:ks.length≤12002:=by omega
     clear hnd htot H3
     go_wp2_with (first
      |(go_at_call 31;refine (C13.out.nodeK (n:=bare 6) K_13.out (rdV_nil _) (rdVV_nil _) (by have h1:=HT.out;have h2:=C10.out.le;have h3:=C10.out.many;skip;(try rw [tot_app]);omega) (by first|omega|(simp;done)|(simp;omega))).mono ?_;rintro e w14 ⟨a14,c14,rfl,hX,hC,hF⟩;have C14:Hid _:=hC;have N_14:Hid _:=hX;clear hC hF hX)
      |(go_at_call 61;refine (C12.out.want es21).mono ?_;rintro e w13 ⟨⟨v13,rfl⟩,hC,hF⟩;have C13:Hid _:=hC;have K_13:Hid _:=C12.out.kids hF K_12.out;clear hC hF)
      |(go_at_call 28;refine (C11.out.got (bool_no he) (got_no he)).mono ?_;rintro e w12 ⟨rfl,hC,hF⟩;have C12:Hid _:=hC;have K_12:Hid _:=C11.out.kids hF K_11.out;clear hC hF)
      |(go_at_call 28;refine (C10.out.got (bool_no h) (got_no h)).mono ?_;rintro e w11 ⟨rfl,hC,hF⟩;have C11:Hid _:=hC;have K_11:Hid _:=C10.out.kids hF K_10.out;clear hC hF))
     go_returns
     exact C14.out.done N_14.out rfl
theorem ms_bad {T:List (Int×Nat×Nat)} {s s':Ps} (h:s.at_≤s'.at_) (hl:s'.at_≤T.length) (hb:s.bad<0) (hp:s'.bad<0→s.at_+1≤s'.at_):msz T s'<msz T s:=by
 unfold msz
 split <;> omega
theorem fns_nil {B:Nat→Bool} {w:World}:FNs B w (.slice none 0 0) []:=⟨none,0,rfl,fun i hi=>absurd hi (by simp)⟩
theorem Cur.ends {E:En} {Q:Nat→Bool} {w W:World} {g:Nat} {s:Ps} (C:Cur E w g Q W s) {b:Bool} (h:ps.ends E.zs E.T s=b) :
  Calls Tryz.prog 27 #[.pointer (some ⟨g,0,none⟩)] W fun e w'=>e=.returned (.bool b)∧Cur E w g Q w' s∧Fq g W w' :=
 (l3ends_any C.ok C.pp).mono (by
  rintro e w' ⟨rfl,hB⟩
  exact ⟨by rw [h],(C.bel hB).1,(C.bel hB).2⟩)
theorem blk_next {E:En} (ok:E.ok) {f:Nat} (AA:∀m,m≤f→Al E m) (s:Ps) (hn0:need E.T 11 s≤f+1):∃l c s',Rs E (f+1) 11 0 s [l] c s'∧Nods E 13 ag1 s l s':=by
 have hn:(0≤s.bad∧2≤f+1)∨(s.bad<0∧20*(E.T.length-s.at_)+11≤f+1):=nx hn0 rfl rfl
 have nY:need E.T 12 s≤f:=(nd 12 1 10 rfl rfl (by omega))
 obtain ⟨Y,hY⟩:∃Y,pz E.zs E.T f 12 0 [] s=Y:=⟨_,rfl⟩
 have GY:=pz_gd E.zs E.T f 12 0 [] s (by decide) nY
 rw [hY] at GY
 obtain ⟨ys,cy,sy⟩:=Y
 have tY:tot ys≤0+20*(sy.at_-s.at_)+2:=GY.2.2.1
 refine ⟨tk.node (bare 0) ys,0,sy,rs_of (by decide) hn0 (by rw [pz_11];unfold pB11;dsimp only;simp only [hY]) (by decide),fun w g hP=>?_⟩
 have C0:Hid (Cur E w g no w s):=Cur.start ok hP
 have HY:Hid (pz E.zs E.T f 12 0 [] s=(ys,cy,sy)∧need E.T 12 s≤f):=⟨hY,nY⟩
 have HT:Hid (tot ys≤0+20*(sy.at_-s.at_)+2):=tY
 have HA:Hid (∀m,m≤f→Al E m):=AA
 have HM:E.T.length≤6000:=ok.many
 clear hP hn hn0 AA hY nY tY GY
 unfold ag1
 go_enter Tryz.func13,Tryz.ntmps13
 go_wp2_with fail
 go_loopw [3] (fun v wr=>∃(m:Nat) (ks:List (List Nd)) (q:Ps) (Q:Nat→Bool) (a:Option Addr) (c:Nat),v=.slice a ks.length c∧Hid (Kids w Q wr (.slice a ks.length c) ks)∧Hid (Cur E w g Q wr q)∧Hid (m≤f∧pz E.zs E.T m 12 0 ks q=(ys,cy,sy)∧need E.T 12 q≤m∧ks.length≤q.at_+1∧(q.bad<0→ks.length≤q.at_))) (fun _ wr=>msW E.T g wr)
 case atStart=>exact ⟨f,[],s,no,none,0,rfl,kids_nil,C0,⟨Nat.le_refl _,HY.out.1,HY.out.2,by simp,fun _=>by simp⟩⟩
 case round =>
  obtain ⟨m,ks,q,Q,a,c,rfl,K_10,C10,H3⟩:=hrel
  obtain ⟨hm,hpz,hnd,hkl,hkb⟩:=H3.out
  have hms:=C10.out.ms
  have hq6:=C10.out.le
  cases m with
  |zero=>have:=need_pos E.T 12 q (by decide) (by decide);omega
  |succ m =>
   rw [pz_12] at hpz
   unfold pB12 at hpz
   dsimp only at hpz
   have nn:(0≤q.bad∧1≤m+1)∨(q.bad<0∧20*(E.T.length-q.at_)+10≤m+1):=by
    rcases need_or E.T 12 q with ⟨a,b⟩|⟨a,b⟩
    ·exact .inl ⟨a,by rw [b] at hnd;exact hnd⟩
    ·exact .inr ⟨a,by rw [b] at hnd;exact hnd⟩
   by_cases he:ends E.zs E.T q=true
   ·rw [if_pos he] at hpz
    injection hpz with e1 e2
    injection e2 with e2 e3
    subst e1 e2 e3
    clear hnd H3 nn hkb
    go_wp2_with (first
     |(go_at_call 31;refine (C11.out.nodeK (n:=bare 0) K_11.out (rdV_nil _) (rdVV_nil _) (by have h1:=HT.out;have h2:=C11.out.le;have h3:=C11.out.many;omega) (by first|omega|(simp;done)|(simp;omega))).mono ?_;rintro e w12 ⟨a12,c12,rfl,hX,hC,hF⟩;have C12:Hid _:=hC;have N_12:Hid _:=hX;clear hC hF hX)
     |(go_at_call 27;refine (C10.out.ends he).mono ?_;rintro e w11 ⟨rfl,hC,hF⟩;have C11:Hid _:=hC;have K_11:Hid _:=C10.out.kids hF K_10.out;clear hC hF))
    go_returns
    exact C12.out.done N_12.out rfl
   ·rw [if_neg he] at hpz
    have hqb:=ends_bad he
    have hk9:ks.length≤6000:=by omega
    by_cases hr:isP E.zs E.T q {data:=#[114,101,116,117,114,110]}=true
    ·rw [if_pos hr] at hpz
     obtain ⟨s41,es41⟩:∃x,got E.zs E.T q {data:=#[114,101,116,117,114,110]}=x:=⟨_,rfl⟩
     have gs41:s41.at_=q.at_+1∧s41.bad=q.bad:=by rw [← es41];exact got_yes hr
     have bs41:=is_bad hr
     simp only [es41] at hpz
     by_cases hs:starts E.zs E.T s41=true
     ·simp only [if_pos hs] at hpz
      obtain ⟨ls42,cs42,s42,Rs42,qs42,Ds42⟩:=(HA.out m (by omega)).exs s41 (nd 6 6 7 rfl rfl (by omega))
      have gs42:s41.at_≤s42.at_∧(0≤s41.bad→0≤s42.bad):=⟨Rs42.2.1,Rs42.2.2.1⟩
      obtain ⟨s43,es43⟩:∃x,got E.zs E.T s42 {data:=#[59]}=x:=⟨_,rfl⟩
      have gs43:(s43.at_=s42.at_+1∧s42.at_<E.T.length∧s42.bad<0∧s43.bad=s42.bad)∨(s43.at_=s42.at_∧s43.bad=s42.bad):=by rw [← es43];exact got_or _ _ _ _
      simp only [Rs42.1,es43] at hpz
      injection hpz with e1 e2
      injection e2 with e2 e3
      subst e1 e2 e3
      have HRs42:Hid _:=Rs42
      have HDs42:Hid _:=Ds42
      have Hqs42:Hid _:=qs42
      clear hnd H3 nn hkb qs42 Rs42 Ds42 gs41 bs41 gs42 gs43
      go_wp2_with (first
       |(go_at_call 31;refine (C17.out.nodeK (n:=bare 0) K_17.out (rdV_nil _) (rdVV_nil _) (by have h1:=HT.out;have h2:=C17.out.le;have h3:=C17.out.many;omega) (by first|omega|(simp;done)|(simp;omega))).mono ?_;rintro e w18 ⟨a18,c18,rfl,hX,hC,hF⟩;have C18:Hid _:=hC;have N_18:Hid _:=hX;clear hC hF hX)
       |(go_at_call 28;refine (C16.out.got rfl es43).mono ?_;rintro e w17 ⟨rfl,hC,hF⟩;have C17:Hid _:=hC;have K_17:Hid _:=C16.out.kids hF K_16.out;clear hC hF)
       |(at_builtin;refine wpList_kid rfl _ _ rfl C15.out _ rfl rfl rfl K_15.out (by simp) Z_15.out (by omega) ?_;intro a16 c16 w16 Q16 hK hC hM;have C16:Hid _:=hC;have K_16:Hid _:=hK;clear hC hK hM)
       |(go_at_call 31;refine (C14.out.nodeF (n:=bare 9) (Below.refl _ _) (X_14.out) (rdV_nil _) (rdVV_nil _) (by have:=tot_le HRs42.out C14.out;omega) (by have:=Hqs42.out;have:=C14.out.le;have:=C14.out.many;omega)).mono ?_;rintro e w15 ⟨a15,c15,rfl,hX,hC,hF⟩;have C15:Hid _:=hC;have K_15:Hid _:=C14.out.kids hF K_14.out;have Z_15:Hid _:=hX;clear hC hF hX)
       |(go_at_call 30;refine (C13.out.callK HDs42.out).mono ?_;rintro e w14 ⟨a14,c14,rfl,hX,hC,hF⟩;have C14:Hid _:=hC;have K_14:Hid _:=C13.out.kids hF K_13.out;have X_14:Hid _:=hX;clear hC hF hX)
       |(go_at_call 29;refine (C12.out.starts hs).mono ?_;rintro e w13 ⟨rfl,hC,hF⟩;have C13:Hid _:=hC;have K_13:Hid _:=C12.out.kids hF K_12.out;clear hC hF)
       |(go_at_call 28;refine (C11.out.got hr es41).mono ?_;rintro e w12 ⟨rfl,hC,hF⟩;have C12:Hid _:=hC;have K_12:Hid _:=C11.out.kids hF K_11.out;clear hC hF)
       |(go_at_call 27;refine (C10.out.ends (bool_no he)).mono ?_;rintro e w11 ⟨rfl,hC,hF⟩;have C11:Hid _:=hC;have K_11:Hid _:=C10.out.kids hF K_10.out;clear hC hF))
      go_returns
      exact C18.out.done N_18.out rfl
     ·simp only [if_neg hs] at hpz
      obtain ⟨s42,es42⟩:∃x,got E.zs E.T s41 {data:=#[59]}=x:=⟨_,rfl⟩
      have gs42:(s42.at_=s41.at_+1∧s41.at_<E.T.length∧s41.bad<0∧s42.bad=s41.bad)∨(s42.at_=s41.at_∧s42.bad=s41.bad):=by rw [← es42];exact got_or _ _ _ _
      simp only [es42] at hpz
      injection hpz with e1 e2
      injection e2 with e2 e3
      subst e1 e2 e3
      clear hnd H3 nn hkb gs41 bs41 gs42
      go_wp2_with (first
       |(go_at_call 31;refine (C16.out.nodeK (n:=bare 0) K_16.out (rdV_nil _) (rdVV_nil _) (by have h1:=HT.out;have h2:=C16.out.le;have h3:=C16.out.many;omega) (by first|omega|(simp;done)|(simp;omega))).mono ?_;rintro e w17 ⟨a17,c17,rfl,hX,hC,hF⟩;have C17:Hid _:=hC;have N_17:Hid _:=hX;clear hC hF hX)
       |(go_at_call 28;refine (C15.out.got rfl es42).mono ?_;rintro e w16 ⟨rfl,hC,hF⟩;have C16:Hid _:=hC;have K_16:Hid _:=C15.out.kids hF K_15.out;clear hC hF)
       |(at_builtin;refine wpList_kid rfl _ _ rfl C14.out _ rfl rfl rfl K_14.out (by simp) Z_14.out (by omega) ?_;intro a15 c15 w15 Q15 hK hC hM;have C15:Hid _:=hC;have K_15:Hid _:=hK;clear hC hK hM)
       |(go_at_call 31;refine (C13.out.nodeF (n:=bare 9) (Below.refl _ _) (fns_nil) (rdV_nil _) (rdVV_nil _) (by decide) (by simp)).mono ?_;rintro e w14 ⟨a14,c14,rfl,hX,hC,hF⟩;have C14:Hid _:=hC;have K_14:Hid _:=C13.out.kids hF K_13.out;have Z_14:Hid _:=hX;clear hC hF hX)
       |(go_at_call 29;refine (C12.out.starts (bool_no hs)).mono ?_;rintro e w13 ⟨rfl,hC,hF⟩;have C13:Hid _:=hC;have K_13:Hid _:=C12.out.kids hF K_12.out;clear hC hF)
       |(go_at_call 28;refine (C11.out.got hr es41).mono ?_;rintro e w12 ⟨rfl,hC,hF⟩;have C12:Hid _:=hC;have K_12:Hid _:=C11.out.kids hF K_11.out;clear hC hF)
       |(go_at_call 27;refine (C10.out.ends (bool_no he)).mono ?_;rintro e w11 ⟨rfl,hC,hF⟩;have C11:Hid _:=hC;have K_11:Hid _:=C10.out.kids hF K_10.out;clear hC hF))
      go_returns
      exact C17.out.done N_17.out rfl
    ·rw [if_neg hr] at hpz
     by_cases hk:(q.loop&&isP E.zs E.T q {data:=#[98,114,101,97,107]})=true
     ·rw [if_pos hk] at hpz
      have hl:q.loop=true:=by simp only [Bool.and_eq_true] at hk;exact hk.1
      have hbr:isP E.zs E.T q {data:=#[98,114,101,97,107]}=true:=by simp only [Bool.and_eq_true] at hk;exact hk.2
      obtain ⟨s41,es41⟩:∃x,got E.zs E.T q {data:=#[98,114,101,97,107]}=x:=⟨_,rfl⟩
      have gs41:s41.at_=q.at_+1∧s41.bad=q.bad:=by rw [← es41];exact got_yes hbr
      have bs41:=is_bad hbr
      obtain ⟨s42,es42⟩:∃x,got E.zs E.T s41 {data:=#[59]}=x:=⟨_,rfl⟩
      have gs42:(s42.at_=s41.at_+1∧s41.at_<E.T.length∧s41.bad<0∧s42.bad=s41.bad)∨(s42.at_=s41.at_∧s42.bad=s41.bad):=by rw [← es42];exact got_or _ _ _ _
      simp only [es41,es42] at hpz
      injection hpz with e1 e2
      injection e2 with e2 e3
      subst e1 e2 e3
      clear hnd H3 nn hkb hk gs41 bs41 gs42
      go_wp2_with (first
       |(go_at_call 31;refine (C16.out.nodeK (n:=bare 0) K_16.out (rdV_nil _) (rdVV_nil _) (by have h1:=HT.out;have h2:=C16.out.le;have h3:=C16.out.many;omega) (by first|omega|(simp;done)|(simp;omega))).mono ?_;rintro e w17 ⟨a17,c17,rfl,hX,hC,hF⟩;have C17:Hid _:=hC;have N_17:Hid _:=hX;clear hC hF hX)
       |(go_at_call 28;refine (C15.out.got rfl es42).mono ?_;rintro e w16 ⟨rfl,hC,hF⟩;have C16:Hid _:=hC;have K_16:Hid _:=C15.out.kids hF K_15.out;clear hC hF)
       |(at_builtin;refine wpList_kid rfl _ _ rfl C14.out _ rfl rfl rfl K_14.out (by simp) Z_14.out (by omega) ?_;intro a15 c15 w15 Q15 hK hC hM;have C15:Hid _:=hC;have K_15:Hid _:=hK;clear hC hK hM)
       |(go_at_call 32;refine (C13.out.leaf 8).mono ?_;rintro e w14 ⟨a14,c14,rfl,hX,hC,hF⟩;have C14:Hid _:=hC;have K_14:Hid _:=C13.out.kids hF K_13.out;have Z_14:Hid _:=hX;clear hC hF hX)
       |(go_at_call 28;refine (C12.out.got hbr es41).mono ?_;rintro e w13 ⟨rfl,hC,hF⟩;have C13:Hid _:=hC;have K_13:Hid _:=C12.out.kids hF K_12.out;clear hC hF)
       |(go_at_call 28;refine (C11.out.got (bool_no hr) (got_no hr)).mono ?_;rintro e w12 ⟨rfl,hC,hF⟩;have C12:Hid _:=hC;have K_12:Hid _:=C11.out.kids hF K_11.out;clear hC hF;have d5:=C12.out.c5;rw [hl] at d5)
       |(go_at_call 27;refine (C10.out.ends (bool_no he)).mono ?_;rintro e w11 ⟨rfl,hC,hF⟩;have C11:Hid _:=hC;have K_11:Hid _:=C10.out.kids hF K_10.out;clear hC hF))
      go_returns
      exact C17.out.done N_17.out rfl
     ·rw [if_neg hk] at hpz
      have hl0:q.loop=true∨q.loop=false:=by cases q.loop <;> simp
      rcases hl0 with hl|hl
      ·have hbr:¬isP E.zs E.T q {data:=#[98,114,101,97,107]}=true:=by intro h;rw [hl,h] at hk;exact hk rfl
       obtain ⟨ls41,cs41,s41,Rs41,Ds41⟩:=(HA.out m (by omega)).sta q (nd 13 4 9 rfl rfl (by omega))
       have gs41:q.at_≤s41.at_∧(0≤q.bad→0≤s41.bad):=⟨Rs41.2.1,Rs41.2.2.1⟩
       have G13:=pz_gd E.zs E.T m 13 0 [] q (by decide) (nd 13 4 9 rfl rfl (by omega))
       rw [Rs41.1] at G13
       have p13:s41.bad<0→q.at_+1≤s41.at_:=G13.2.2.2.2.1
       clear G13
       obtain ⟨s42,es42⟩:∃x,got E.zs E.T s41 {data:=#[59]}=x:=⟨_,rfl⟩
       have gs42:(s42.at_=s41.at_+1∧s41.at_<E.T.length∧s41.bad<0∧s42.bad=s41.bad)∨(s42.at_=s41.at_∧s42.bad=s41.bad):=by rw [← es42];exact got_or _ _ _ _
       simp only [Rs41.1,es42] at hpz
       have HN:Hid ((m≤f∧pz E.zs E.T m 12 0 (ks++[ls41]) s42=(ys,cy,sy)∧need E.T 12 s42≤m∧(ks++[ls41]).length≤s42.at_+1∧(s42.bad<0→(ks++[ls41]).length≤s42.at_))∧q.at_≤s42.at_∧q.bad<0∧(s42.bad<0→q.at_+1≤s42.at_)):=⟨⟨by omega,hpz,(nd 12 1 10 rfl rfl (by omega)),by simp;omega,by simp;omega⟩,by omega,by omega,by omega⟩
       have HRs41:Hid _:=Rs41
       have HDs41:Hid _:=Ds41
       clear hpz hnd H3 nn hkb p13 Rs41 Ds41 gs41 gs42
       go_wp2_with (first
        |(go_at_call 28;refine (C15.out.got rfl es42).mono ?_;rintro e w16 ⟨rfl,hC,hF⟩;have C16:Hid _:=hC;have K_16:Hid _:=C15.out.kids hF K_15.out;clear hC hF)
        |(at_builtin;refine wpList_kid rfl _ _ rfl C14.out _ rfl rfl rfl K_14.out (by simp) Z_14.out (by omega) ?_;intro a15 c15 w15 Q15 hK hC hM;have C15:Hid _:=hC;have K_15:Hid _:=hK;clear hC hK hM)
        |(go_at_call 33;refine (C13.out.call HDs41.out).mono ?_;rintro e w14 ⟨a14,c14,rfl,hX,hC,hF⟩;have C14:Hid _:=hC;have K_14:Hid _:=C13.out.kids hF K_13.out;have Z_14:Hid _:=hX;clear hC hF hX)
        |(go_at_call 28;refine (C12.out.got (bool_no hbr) (got_no hbr)).mono ?_;rintro e w13 ⟨rfl,hC,hF⟩;have C13:Hid _:=hC;have K_13:Hid _:=C12.out.kids hF K_12.out;clear hC hF)
        |(go_at_call 28;refine (C11.out.got (bool_no hr) (got_no hr)).mono ?_;rintro e w12 ⟨rfl,hC,hF⟩;have C12:Hid _:=hC;have K_12:Hid _:=C11.out.kids hF K_11.out;clear hC hF;have d5:=C12.out.c5;rw [hl] at d5)
        |(go_at_call 27;refine (C10.out.ends (bool_no he)).mono ?_;rintro e w11 ⟨rfl,hC,hF⟩;have C11:Hid _:=hC;have K_11:Hid _:=C10.out.kids hF K_10.out;clear hC hF))
       go_roundw
       case rel=>exact ⟨m,ks++[ls41],s42,Q15,a15,c15,by rw [List.length_append];rfl,by rw [List.length_append];exact K_16,C16,HN.out.1⟩
       case measure =>
        have:=C16.out.ms
        have:=C16.out.le
        have:=HN.out.2
        have:=ms_bad (T:=E.T) (s:=q) (s':=s42) (by omega) (by omega) (by omega) (by omega)
        omega
      ·skip
       obtain ⟨ls41,cs41,s41,Rs41,Ds41⟩:=(HA.out m (by omega)).sta q (nd 13 4 9 rfl rfl (by omega))
       have gs41:q.at_≤s41.at_∧(0≤q.bad→0≤s41.bad):=⟨Rs41.2.1,Rs41.2.2.1⟩
       have G13:=pz_gd E.zs E.T m 13 0 [] q (by decide) (nd 13 4 9 rfl rfl (by omega))
       rw [Rs41.1] at G13
       have p13:s41.bad<0→q.at_+1≤s41.at_:=G13.2.2.2.2.1
       clear G13
       obtain ⟨s42,es42⟩:∃x,got E.zs E.T s41 {data:=#[59]}=x:=⟨_,rfl⟩
       have gs42:(s42.at_=s41.at_+1∧s41.at_<E.T.length∧s41.bad<0∧s42.bad=s41.bad)∨(s42.at_=s41.at_∧s42.bad=s41.bad):=by rw [← es42];exact got_or _ _ _ _
       simp only [Rs41.1,es42] at hpz
       have HN:Hid ((m≤f∧pz E.zs E.T m 12 0 (ks++[ls41]) s42=(ys,cy,sy)∧need E.T 12 s42≤m∧(ks++[ls41]).length≤s42.at_+1∧(s42.bad<0→(ks++[ls41]).length≤s42.at_))∧q.at_≤s42.at_∧q.bad<0∧(s42.bad<0→q.at_+1≤s42.at_)):=⟨⟨by omega,hpz,(nd 12 1 10 rfl rfl (by omega)),by simp;omega,by simp;omega⟩,by omega,by omega,by omega⟩
       have HRs41:Hid _:=Rs41
       have HDs41:Hid _:=Ds41
       clear hpz hnd H3 nn hkb p13 Rs41 Ds41 gs41 gs42
       go_wp2_with (first
        |(go_at_call 28;refine (C14.out.got rfl es42).mono ?_;rintro e w15 ⟨rfl,hC,hF⟩;have C15:Hid _:=hC;have K_15:Hid _:=C14.out.kids hF K_14.out;clear hC hF)
        |(at_builtin;refine wpList_kid rfl _ _ rfl C13.out _ rfl rfl rfl K_13.out (by simp) Z_13.out (by omega) ?_;intro a14 c14 w14 Q14 hK hC hM;have C14:Hid _:=hC;have K_14:Hid _:=hK;clear hC hK hM)
        |(go_at_call 33;refine (C12.out.call HDs41.out).mono ?_;rintro e w13 ⟨a13,c13,rfl,hX,hC,hF⟩;have C13:Hid _:=hC;have K_13:Hid _:=C12.out.kids hF K_12.out;have Z_13:Hid _:=hX;clear hC hF hX)
        |(go_at_call 28;refine (C11.out.got (bool_no hr) (got_no hr)).mono ?_;rintro e w12 ⟨rfl,hC,hF⟩;have C12:Hid _:=hC;have K_12:Hid _:=C11.out.kids hF K_11.out;clear hC hF;have d5:=C12.out.c5;rw [hl] at d5)
        |(go_at_call 27;refine (C10.out.ends (bool_no he)).mono ?_;rintro e w11 ⟨rfl,hC,hF⟩;have C11:Hid _:=hC;have K_11:Hid _:=C10.out.kids hF K_10.out;clear hC hF))
       go_roundw
       case rel=>exact ⟨m,ks++[ls41],s42,Q14,a14,c14,by rw [List.length_append];rfl,by rw [List.length_append];exact K_15,C15,HN.out.1⟩
       case measure =>
        have:=C15.out.ms
        have:=C15.out.le
        have:=HN.out.2
        have:=ms_bad (T:=E.T) (s:=q) (s':=s42) (by omega) (by omega) (by omega) (by omega)
        omega
end ps
end Go.Proofs.YtkmiagkehcflnaaGreatDoor
