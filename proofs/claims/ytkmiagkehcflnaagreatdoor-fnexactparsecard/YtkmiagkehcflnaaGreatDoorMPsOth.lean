import Derived.Test.YtkmiagkehcflnaaGreatDoorMPsBlk
import Derived.Test.YtkmiagkehcflnaaGreatDoorMPsSuf
set_option linter.unusedVariables false
set_option linter.unusedSimpArgs false
set_option maxRecDepth 100000
set_option maxHeartbeats 8000000
namespace Go.Proofs.YtkmiagkehcflnaaGreatDoor
namespace ps
open Go.RowKit bts nod lex tk
theorem Cur.setLg {E:En} {w W:World} {g:Nat} {Q:Nat→Bool} {s sy sl:Ps} {b:Bool} (C:Cur E w g Q W s) (hs:sy=s) (h:{sy with long:=b}=sl):Cur E w g Q (W.setCell ⟨g,4,none⟩ (.bool b)) sl∧Fq g W (W.setCell ⟨g,4,none⟩ (.bool b)):=by subst hs h;exact C.setLong b
theorem ways {zs:List Int} {T:List (Int×Nat×Nat)} {f:Nat} {n:Int} {ks:List (List Nd)} {q:Ps} {Y:List (List Nd)×Int×Ps} (h:pz zs T (f+1) 17 n ks q=Y) :
  (0≤q.bad∧Y=(ks,n,q))∨(q.bad<0∧¬n=116∧Y=(ks,n,wrong zs T q))∨(q.bad<0∧n=116∧¬isP zs T q {data:=#[61]}=true∧¬isP zs T q {data:=#[44]}=true∧Y=(ks,n,wrong zs T q)) ∨
  (q.bad<0∧n=116∧isP zs T q {data:=#[61]}=true∧¬isP zs T q {data:=#[44]}=true∧Y=(ks,n,q)) ∨
  (q.bad<0∧n=116∧isP zs T q {data:=#[44]}=true∧Y=pz zs T f 17 (pz zs T f 4 0 [] (got zs T q {data:=#[44]})).2.1 (ks++(pz zs T f 4 0 [] (got zs T q {data:=#[44]})).1) (pz zs T f 4 0 [] (got zs T q {data:=#[44]})).2.2):=by
 rw [pz_17] at h
 unfold pB17 at h
 dsimp only at h
 by_cases hb:0≤q.bad
 ·rw [if_pos hb] at h
  exact .inl ⟨hb,h.symm⟩
 rw [if_neg hb] at h
 have hb2:q.bad<0:=by omega
 have hw:¬isP zs T (wrong zs T q) {data:=#[44]}=true:=fun h=>by have:=(is_bad h).1;have:=(wrong_f zs T q).2;omega
 by_cases hn:n=116
 ·by_cases hc:isP zs T q {data:=#[44]}=true
  ·simp only [if_neg (show ¬(¬n=116∨¬isP zs T q {data:=#[61]}=true∧¬isP zs T q {data:=#[44]}=true) by simp [hn,hc]),if_pos hc] at h
   exact .inr (.inr (.inr (.inr ⟨hb2,hn,hc,h.symm⟩)))
  ·by_cases he:isP zs T q {data:=#[61]}=true
   ·simp only [if_neg (show ¬(¬n=116∨¬isP zs T q {data:=#[61]}=true∧¬isP zs T q {data:=#[44]}=true) by simp [hn,he]),if_neg hc] at h
    exact .inr (.inr (.inr (.inl ⟨hb2,hn,he,hc,h.symm⟩)))
   ·simp only [if_pos (show ¬n=116∨¬isP zs T q {data:=#[61]}=true∧¬isP zs T q {data:=#[44]}=true from .inr ⟨he,hc⟩),if_neg hw] at h
    exact .inr (.inr (.inl ⟨hb2,hn,he,hc,h.symm⟩))
 ·simp only [if_pos (show ¬n=116∨¬isP zs T q {data:=#[61]}=true∧¬isP zs T q {data:=#[44]}=true from .inl hn),if_neg hw] at h
  exact .inr (.inl ⟨hb2,hn,h.symm⟩)
theorem oth_next {E:En} (ok:E.ok) {f:Nat} (AA:∀m,m≤f→Al E m) (s:Ps) (hn0:need E.T 16 s≤f+1):∃l c s',Rs E (f+1) 16 0 s [l] c s'∧Nods E 64 ag1 s l s':=by
 have hn:(0≤s.bad∧3≤f+1)∨(s.bad<0∧20*(E.T.length-s.at_)+8≤f+1):=nx hn0 rfl rfl
 have A:=AA f (Nat.le_refl _)
 obtain ⟨ls1,cs1,s1,Rs1,Ds1⟩:=A.suf s (nd 4 2 3 rfl rfl (by omega))
 have gs1:s.at_≤s1.at_∧(0≤s.bad→0≤s1.bad):=⟨Rs1.2.1,Rs1.2.2.1⟩
 by_cases hc:cs1=99∧¬isP E.zs E.T s1 {data:=#[61]}=true∧¬isP E.zs E.T s1 {data:=#[44]}=true
 ·skip
  have h99:cs1=99:=hc.1
  have e99:(cs1==99)=true:=by simp [h99]
  refine ⟨tk.node (bare 10) [ls1],0,s1,rs_of (by decide) hn0 (by rw [pz_16];unfold pB16;dsimp only;simp only [Rs1.1,if_pos hc]) (by decide),fun w g hP=>?_⟩
  have C0:Hid (Cur E w g no w s):=Cur.start ok hP
  have HRs1:Hid _:=Rs1
  have HDs1:Hid _:=Ds1
  clear hP hn hn0 Rs1 Ds1 gs1
  unfold ag1
  go_enter Tryz.func64,Tryz.ntmps64
  go_wp2_with (first
   |(go_at_call 31;refine (C3.out.nodeL (nd:=bare 10) (kr_one X_3.out) rfl (rdV_nil _) (rdVV_nil _) (by have:=tot_le HRs1.out C1.out;omega) (by simp)).mono ?_;rintro e w4 ⟨a4,c4,rfl,hX,hC,hF⟩;have C4:Hid _:=hC;have N_4:Hid _:=hX;clear hC hF hX)
   |(go_at_call 55;refine (C2.out.is (bool_no hc.2.2)).mono ?_;rintro e w3 ⟨rfl,hC,hF⟩;have C3:Hid _:=hC;have X_3:Hid _:=C2.out.fn hF X_2.out;clear hC hF)
   |(go_at_call 55;refine (C1.out.is (bool_no hc.2.1)).mono ?_;rintro e w2 ⟨rfl,hC,hF⟩;have C2:Hid _:=hC;have X_2:Hid _:=C1.out.fn hF X_1.out;clear hC hF)
   |(go_at_call 93;refine (C0.out.callB HDs1.out).mono ?_;rintro e w1 ⟨a1,c1,rfl,hX,hC,hF⟩;have C1:Hid _:=hC;have X_1:Hid _:=hX;clear hC hF hX))
  go_returns
  exact C4.out.done N_4.out rfl
 ·skip
  have nY:need E.T 17 s1≤f:=(nd 17 1 2 rfl rfl (by omega))
  obtain ⟨Y,hY⟩:∃Y,pz E.zs E.T f 17 (cs1) ([ls1]) s1=Y:=⟨_,rfl⟩
  have GY:=pz_gd E.zs E.T f 17 (cs1) ([ls1]) s1 (by decide) nY
  rw [hY] at GY
  obtain ⟨ys,cy,sy⟩:=Y
  have gY:s1.at_≤sy.at_∧(0≤s1.bad→0≤sy.bad):=⟨GY.1,GY.2.1⟩
  clear GY
  obtain ⟨sl,esl⟩:∃x,longer sy (decide (50<ys.length))=x:=⟨_,rfl⟩
  have gl:sl.at_=sy.at_∧sl.bad=sy.bad:=by rw [← esl];exact ⟨rfl,rfl⟩
  obtain ⟨s2,es2⟩:∃x,want E.zs E.T sl {data:=#[61]}=x:=⟨_,rfl⟩
  have g2:(s2.at_=sl.at_+1∧sl.at_<E.T.length∧sl.bad<0∧s2.bad=sl.bad)∨(s2.at_=sl.at_∧0≤s2.bad):=by rw [← es2];exact want_f _ _ _ _
  have hc3:(cs1=99∧isP E.zs E.T s1 {data:=#[61]}=true)∨(cs1=99∧¬isP E.zs E.T s1 {data:=#[61]}=true∧isP E.zs E.T s1 {data:=#[44]}=true)∨¬cs1=99:=by
   by_cases h9:cs1=99
   ·by_cases h5:isP E.zs E.T s1 {data:=#[61]}=true
    ·exact .inl ⟨h9,h5⟩
    ·by_cases h6:isP E.zs E.T s1 {data:=#[44]}=true
     ·exact .inr (.inl ⟨h9,h5,h6⟩)
     ·exact absurd ⟨h9,h5,h6⟩ hc
   ·exact .inr (.inr h9)
  obtain ⟨le,se,hres,TL⟩:∃le se,pz E.zs E.T (f+1) 16 0 [] s=([tk.node ⟨2,(ys.length:Int),[],[],0⟩ (ys++le)],0,se)∧((s2.bad<0∧∃ce,Rs E f 6 0 s2 le ce se∧le.length≤se.at_+1∧NodsK E 30 ag1 s2 le se)∨(¬s2.bad<0∧le=[]∧se=s2)):=by
   by_cases hs2:s2.bad<0
   ·obtain ⟨le,ce,se,Re,qe,De⟩:=A.exs s2 (nd 6 6 7 rfl rfl (by omega))
    exact ⟨le,se,by rw [pz_16];unfold pB16;dsimp only;simp only [Rs1.1,if_neg hc,hY,esl,es2,if_pos hs2,Re.1],.inl ⟨hs2,ce,Re,qe,De⟩⟩
   ·exact ⟨[],s2,by rw [pz_16];unfold pB16;dsimp only;simp only [Rs1.1,if_neg hc,hY,esl,es2,if_neg hs2,List.append_nil],.inr ⟨hs2,rfl,rfl⟩⟩
  refine ⟨tk.node ⟨2,(ys.length:Int),[],[],0⟩ (ys++le),0,se,rs_of (by decide) hn0 hres (by decide),fun w g hP=>?_⟩
  have C:Hid (Cur E w g no w s):=Cur.start ok hP
  have HDs1:Hid _:=Ds1
  have HY:Hid (pz E.zs E.T f 17 cs1 [ls1] s1=(ys,cy,sy)∧need E.T 17 s1≤f∧tot [ls1]≤20*s1.at_+10):=⟨hY,nY,by have:=Rs1.2.2.2;omega⟩
  have HA:Hid (∀m,m≤f→Al E m):=AA
  have HM:E.T.length≤6000:=ok.many
  have HTL:Hid ((s2.bad<0∧∃ce,Rs E f 6 0 s2 le ce se∧le.length≤se.at_+1∧NodsK E 30 ag1 s2 le se)∨(¬s2.bad<0∧le=[]∧se=s2)):=TL
  clear hP hn hn0 AA A hY nY gY g2 gl Rs1 Ds1 gs1 hc TL hres
  unfold ag1
  rcases hc3 with ⟨rfl,h5⟩|⟨rfl,h5,h6⟩|h9
  rotate_left 2
  have e9:(cs1==99)=false:=by simp [h9]
  rotate_left
  all_goals
   go_enter Tryz.func64,Tryz.ntmps64
   go_wp2_with (first
    |(go_at_call 55;(first|with_reducible refine (C.out.is h5).mono ?_|with_reducible refine (C.out.is (bool_no h5)).mono ?_|with_reducible refine (C.out.is h6).mono ?_);rintro e w2 ⟨rfl,hC,hF⟩;replace X:Hid _:=C.out.fn hF X.out;replace C:Hid _:=hC;clear hC hF)
    |(go_at_call 93;refine (C.out.callB HDs1.out).mono ?_;rintro e w1 ⟨a1,c1,rfl,hX,hC,hF⟩;replace C:Hid _:=hC;have X:Hid _:=hX;clear hC hF hX))
   obtain ⟨Ql,hCl,hKl,_⟩:=C.out.lit (kr_one X.out) rfl (by simp)
   have CL:Hid _:=hCl
   have KL:Hid _:=hKl
   clear hCl hKl X C
   go_loopw [4,5] (fun u v wr=>∃(m:Nat) (n:Int) (ks:List (List Nd)) (q:Ps) (Q:Nat→Bool) (a:Option Addr) (c:Nat),u=.int .u8 n∧v=.slice a ks.length c∧Hid (Kids w Q wr (.slice a ks.length c) ks)∧Hid (Cur E w g Q wr q)∧Hid (m≤f∧pz E.zs E.T m 17 n ks q=(ys,cy,sy)∧need E.T 17 q≤m∧tot ks≤20*q.at_+10∧ks.length≤q.at_+1)) (fun _ _ wr=>msW E.T g wr)
   case atStart=>exact ⟨f,_,[ls1],s1,Ql,_,_,rfl,rfl,KL,CL,⟨Nat.le_refl _,HY.out.1,HY.out.2.1,HY.out.2.2,by simp⟩⟩
   case round =>
    obtain ⟨m,n,ks,q,Q,a,c,rfl,rfl,K,C,H3⟩:=hrel
    obtain ⟨hm,hpz,hnd,htot,hkl⟩:=H3.out
    have hms:=C.out.ms
    have hq6:=C.out.le
    have d3:=C.out.c3
    obtain ⟨m,rfl⟩:∃m',m=m'+1:=⟨m-1,by have:=need_pos E.T 17 q (by decide) (by decide);omega⟩
    have nn:(0≤q.bad∧1≤m+1)∨(q.bad<0∧20*(E.T.length-q.at_)+2≤m+1):=by
     rcases need_or E.T 17 q with ⟨a,b⟩|⟨a,b⟩
     ·exact .inl ⟨a,by rw [b] at hnd;exact hnd⟩
     ·exact .inr ⟨a,by rw [b] at hnd;exact hnd⟩
    have hl9:ks.length≤6001:=by omega
    have HT:Hid (tot ks≤20*q.at_+10):=htot
    have HQ:Hid (q.at_≤E.T.length):=hq6
    rcases ways hpz with ⟨hb,hT⟩|⟨hb,hn,hT⟩|⟨hb,rfl,h5,h6,hT⟩|⟨hb,rfl,h5,h6,hT⟩|⟨hb,rfl,h6,hT⟩
    rotate_left 4
    ·obtain ⟨s41,es41⟩:∃x,got E.zs E.T q {data:=#[44]}=x:=⟨_,rfl⟩
     have gs41:s41.at_=q.at_+1∧s41.bad=q.bad:=by rw [← es41];exact got_yes h6
     have bs41:=is_bad h6
     obtain ⟨ls42,cs42,s42,Rs42,Ds42⟩:=(HA.out m (by omega)).suf s41 (nd 4 2 3 rfl rfl (by omega))
     have gs42:s41.at_≤s42.at_∧(0≤s41.bad→0≤s42.bad):=⟨Rs42.2.1,Rs42.2.2.1⟩
     simp only [es41,Rs42.1] at hT
     have t2:=Rs42.2.2.2
     have HN:Hid ((m≤f∧pz E.zs E.T m 17 cs42 (ks++[ls42]) s42=(ys,cy,sy)∧need E.T 17 s42≤m∧tot (ks++[ls42])≤20*s42.at_+10∧(ks++[ls42]).length≤s42.at_+1)∧q.at_<s42.at_):=⟨⟨by omega,hT.symm,(nd 17 1 2 rfl rfl (by omega)),by rw [tot_app];omega,by simp;omega⟩,by omega⟩
     have HDs42:Hid _:=Ds42
     clear hpz hnd H3 nn htot t2 Rs42 Ds42 gs41 bs41 gs42 hT
     by_cases h5:isP E.zs E.T q {data:=#[61]}=true
     all_goals
      go_wp2_with (first
       |(at_builtin;refine wpList_kid rfl _ _ rfl C.out _ rfl rfl rfl K.out (by simp) Z.out (by omega) ?_;intro a14 c14 w14 Q14 hK hC hM;replace C:Hid _:=hC;replace K:Hid _:=hK;clear hC hK hM)
       |(go_at_call 93;refine (C.out.callB HDs42.out).mono ?_;rintro e w13 ⟨a13,c13,rfl,hX,hC,hF⟩;replace K:Hid _:=C.out.kids hF K.out;replace C:Hid _:=hC;have Z:Hid _:=hX;clear hC hF hX)
       |(go_at_call 28;refine (C.out.got h6 es41).mono ?_;rintro e w12 ⟨rfl,hC,hF⟩;replace K:Hid _:=C.out.kids hF K.out;replace C:Hid _:=hC;clear hC hF)
       |(go_at_call 55;(first|with_reducible refine (C.out.is h5).mono ?_|with_reducible refine (C.out.is (bool_no h5)).mono ?_|with_reducible refine (C.out.is h6).mono ?_);rintro e w11 ⟨rfl,hC,hF⟩;replace K:Hid _:=C.out.kids hF K.out;replace C:Hid _:=hC;clear hC hF))
      go_roundw
      case rel=>exact ⟨m,cs42,ks++[ls42],s42,Q14,a14,c14,rfl,by rw [List.length_append];rfl,by rw [List.length_append];exact K,C,HN.out.1⟩
      case measure =>
       have:=C.out.ms
       have:=C.out.le
       have:=HN.out.2
       have:=ms_lt (T:=E.T) (s:=q) (s':=s42) (by omega) (by omega)
       omega
    all_goals
     simp only [Prod.mk.injEq] at hT
     obtain ⟨e1,e2,HS0⟩:=hT
     replace e1:=e1.symm
     subst e1
     have HS:Hid _:=HS0
     have hl:sy.long=true∨sy.long=false:=by cases sy.long <;> simp
     clear hnd H3 nn htot hpz HS0
     rcases hl with hl|hl
     have hbb:Hid (({sy with long:=true}:Ps)=sl):=by show _=_;rw [← esl];unfold longer;rw [hl];rfl
     rotate_left
     have hbb:Hid (({sy with long:=decide ((50:Int)<(ks.length:Int))}:Ps)=sl):=by show _=_;rw [← esl];unfold longer;rw [hl,Bool.false_or,show decide ((50:Int)<(ks.length:Int))=decide (50<ks.length) from decide_eq_decide.2 (by omega)]
     all_goals
      rcases HTL.out with ⟨hs2,ce,Re,qe,De⟩|⟨hs2,rfl,rfl⟩
      have HRe:Hid _:=Re
      have HDe:Hid _:=De
      have Hqe:Hid _:=qe
      clear Re De qe
      all_goals
       try (have d4:=C.out.c4;have f4:=C.out.free 4;rw [← HS.out,hl] at d4)
       try (have en:(n==116)=false:=(by simp;exact hn))
       go_wp2_with (first
        |(go_at_call 31;refine (C.out.nodeK (n:=⟨2,(ks.length:Int),[],[],0⟩) K.out (rdV_nil _) (rdVV_nil _) (by have h1:=HT.out;have h3:=HQ.out;first|(have h2:=tot_le HRe.out C.out;rw [tot_app];omega)|omega) (by have h3:=C.out.le;first|(have:=Hqe.out;simp;omega)|omega)).mono ?_;rintro e w16 ⟨a16,c16,rfl,hX,hC,hF⟩;replace C:Hid _:=hC;have N:Hid _:=hX;clear hC hF hX)
        |(at_builtin;refine wpList_kids rfl _ _ rfl C.out rfl rfl K.out (by simp) Y.out (by have:=Hqe.out;have:=C.out.le;omega) ?_;intro a15 c15 w15 Q15 hK hC hM;replace C:Hid _:=hC;replace K:Hid _:=hK;clear hC hK hM)
        |(go_at_call 30;refine (C.out.callK HDe.out).mono ?_;rintro e w14 ⟨a14,c14,rfl,hX,hC,hF⟩;replace K:Hid _:=C.out.kids hF K.out;replace C:Hid _:=hC;have Y:Hid _:=hX;clear hC hF hX)
        |(go_at_call 61;obtain ⟨hCl,hFl⟩:=C.out.setLg HS.out hbb.out;replace K:Hid _:=C.out.kids hFl K.out;refine (hCl.want es2).mono ?_;rintro e w13 ⟨⟨v13,rfl⟩,hC,hF⟩;replace K:Hid _:=hCl.kids hF K.out;replace C:Hid _:=hC;clear hC hF hCl hFl;have d3z:=C.out.c3)
        |(go_at_call 28;(first|refine (C.out.got (bool_no (fun h=>by have h1:=(is_bad h).1;have h2:=(wrong_f E.zs E.T q).2;omega)) (got_no (fun h=>by have h1:=(is_bad h).1;have h2:=(wrong_f E.zs E.T q).2;omega))).mono ?_|refine (C.out.got (bool_no h6) (got_no h6)).mono ?_);rintro e w12 ⟨rfl,hC,hF⟩;replace K:Hid _:=C.out.kids hF K.out;replace C:Hid _:=hC;clear hC hF;have d4:=C.out.c4;have f4:=C.out.free 4;rw [← HS.out,hl] at d4)
        |(go_at_call 14;refine (C.out.wrong).mono ?_;rintro e w11 ⟨⟨v11,rfl⟩,hC,hF⟩;replace K:Hid _:=C.out.kids hF K.out;replace C:Hid _:=hC;clear hC hF)
        |(go_at_call 55;(first|with_reducible refine (C.out.is h5).mono ?_|with_reducible refine (C.out.is (bool_no h5)).mono ?_|with_reducible refine (C.out.is (bool_no h6)).mono ?_);rintro e w11 ⟨rfl,hC,hF⟩;replace K:Hid _:=C.out.kids hF K.out;replace C:Hid _:=hC;clear hC hF))
       go_returns
       first|exact C.out.done N.out rfl|(simp only [List.append_nil];exact C.out.done N.out rfl)
end ps
end Go.Proofs.YtkmiagkehcflnaaGreatDoor
