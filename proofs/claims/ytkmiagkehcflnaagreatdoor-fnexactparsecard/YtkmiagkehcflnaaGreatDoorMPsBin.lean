import Derived.Test.YtkmiagkehcflnaaGreatDoorMPsFunc
import Derived.Test.YtkmiagkehcflnaaGreatDoorMPsOper
set_option maxRecDepth 100000
set_option maxHeartbeats 8000000
namespace Go.Proofs.YtkmiagkehcflnaaGreatDoor
namespace ps
open Go.RowKit bts nod lex tk
theorem bind_range:∀k:Nat,k<12→1≤vt.bindK 21 (k:Int)∧vt.bindK 21 (k:Int)≤6:=by
 intro k hk
 have:k=0∨k=1∨k=2∨k=3∨k=4∨k=5∨k=6∨k=7∨k=8∨k=9∨k=10∨k=11:=by omega
 rcases this with rfl|rfl|rfl|rfl|rfl|rfl|rfl|rfl|rfl|rfl|rfl|rfl <;> decide
theorem opFrom_shape {zs:List Int} {T:List (Int×Nat×Nat)} {s:Ps}:∀(f k:Nat),f+k≤12→∃kd n b,opFrom zs T s f k=(⟨kd,n,[],[],0⟩,b)∧0≤b∧b≤6
 |0,_,_=>⟨0,0,0,rfl,by omega,by omega⟩
 |f+1,k,h=>by
  unfold opFrom
  split
  ·have:=bind_range k (by omega)
   exact ⟨21,(k:Int),vt.bindK 21 (k:Int),rfl,by omega,by omega⟩
  ·exact opFrom_shape f (k+1) (by omega)
theorem oper_shape (zs:List Int) (T:List (Int×Nat×Nat)) (s:Ps):∃kd n b,oper zs T s=(⟨kd,n,[],[],0⟩,b)∧0≤b∧b≤6:=by
 unfold oper
 split
 ·exact ⟨23,0,1,rfl,by omega,by omega⟩
 ·split
  ·exact ⟨22,0,2,rfl,by omega,by omega⟩
  ·exact opFrom_shape 12 0 (by omega)
theorem Cur.oper {E:En} {Q:Nat→Bool} {w W:World} {g:Nat} {s:Ps} (C:Cur E w g Q W s) {kd n b:Int} (h:ps.oper E.zs E.T s=(⟨kd,n,[],[],0⟩,b)) :
  Calls Tryz.prog 92 #[.pointer (some ⟨g,0,none⟩)] W fun e w'=>e=.returned (.tuple #[.agg #[.int .i64 kd,.int .i64 n,.slice none 0 0,.slice none 0 0,.int .i64 0],.int .i64 b])∧Cur E w g Q w' s∧Fq g W w' :=
 (l3operator_any C.ok C.pp).mono (by
  rintro e w' ⟨rfl,hB⟩
  rw [h]
  exact ⟨rfl,(C.bel hB).1,(C.bel hB).2⟩)
theorem bin_next {E:En} (ok:E.ok) {f:Nat} (AA:∀m,m≤f→Al E m) (n:Int) (s:Ps) (hn1:1≤n) (hn7:n≤7) (hn0:need E.T 0 s≤f+1):∃l c s',Rs E (f+1) 0 n s [l] c s'∧Nods E 57 (ag2 n) s l s':=by
 have hn:(0≤s.bad∧5≤f+1)∨(s.bad<0∧20*(E.T.length-s.at_)+6≤f+1):=nx hn0 rfl rfl
 have A:=AA f (Nat.le_refl _)
 obtain ⟨ls1,cs1,s1,Rs1,Ds1⟩:=A.una s (nd 2 4 5 rfl rfl (by omega))
 have gs1:s.at_≤s1.at_∧(0≤s.bad→0≤s1.bad):=⟨Rs1.2.1,Rs1.2.2.1⟩
 have nY:need E.T 1 s1≤f:=(nd 1 1 5 rfl rfl (by omega))
 obtain ⟨Y,hY⟩:∃Y,pz E.zs E.T f 1 n [ls1] s1=Y:=⟨_,rfl⟩
 obtain ⟨ys,cy,sy⟩:=Y
 have H:∀(m:Nat) (l:List Nd) (q:Ps) (r:List (List Nd)×Int×Ps),need E.T 1 q≤m→pz E.zs E.T m 1 n [l] q=r→m≤f→∃l9,r.1=[l9]:=by
  intro m
  induction m with
  |zero=>intro l q r hm;have:=need_pos E.T 1 q (by decide) (by decide);omega
  |succ m ih =>
   intro l q r hm hr hmf
   rw [pz_1] at hr
   unfold pB1 at hr
   dsimp only at hr
   by_cases hb:0≤q.bad
   ·rw [if_pos hb] at hr;exact ⟨l,by rw [← hr]⟩
   ·rw [if_neg hb] at hr
    by_cases hq:(oper E.zs E.T q).2<n∨(oper E.zs E.T q).2=0
    ·rw [if_pos hq] at hr;exact ⟨l,by rw [← hr]⟩
    ·rw [if_neg hq] at hr
     have hlt:=oper_lt (zs:=E.zs) (T:=E.T) (s:=q) (fun e=>hq (.inr e))
     have nn:(0≤q.bad∧need E.T 1 q=1)∨(q.bad<0∧need E.T 1 q=20*(E.T.length-q.at_)+5):=need_or E.T 1 q
     obtain ⟨kd,n2,b2,ho,hb0,hb6⟩:=oper_shape E.zs E.T q
     have gs:(step q).at_=q.at_+1:=rfl
     have hb9:1≤(if (oper E.zs E.T q).2=4 then (oper E.zs E.T q).2 else (oper E.zs E.T q).2+1)∧(if (oper E.zs E.T q).2=4 then (oper E.zs E.T q).2 else (oper E.zs E.T q).2+1)≤7:=by rw [ho];dsimp only;split <;> omega
     obtain ⟨l2,c2,s2,R2,_⟩:=(AA m (by omega)).bin _ (step q) hb9.1 hb9.2 (by have n2:=need_le E.T 0 (step q) (by decide);have:cOk 0=6:=rfl;omega)
     rw [R2.1] at hr
     have ga:=R2.2.1
     exact ih _ s2 r (by have n2:=need_le E.T 1 s2 (by decide);have:cOk 1=5:=rfl;omega) hr (by omega)
 obtain ⟨l9,h9⟩:=H f _ s1 _ nY hY (Nat.le_refl _)
 dsimp only at h9
 subst h9
 clear H
 refine ⟨l9,cy,sy,rs_of (by decide) hn0 (by rw [pz_0];unfold pB0;dsimp only;rw [Rs1.1];exact hY) (by decide),fun w g hP=>?_⟩
 have C0:Hid (Cur E w g no w s):=Cur.start ok hP
 have HRs1:Hid _:=Rs1
 have HDs1:Hid _:=Ds1
 have HY:Hid (pz E.zs E.T f 1 n [ls1] s1=([l9],cy,sy)∧need E.T 1 s1≤f∧tot [ls1]≤20*s1.at_+10):=⟨hY,nY,by have:=Rs1.2.2.2;omega⟩
 have HA:Hid (∀m,m≤f→Al E m):=AA
 have HM:E.T.length≤6000:=ok.many
 clear hP hn hn0 AA A hY nY Rs1 Ds1 gs1
 unfold ag2
 go_enter Tryz.func57,Tryz.ntmps57
 go_wp2_with (first
  |(go_at_call 91;refine (C0.out.call HDs1.out).mono ?_;rintro e w1 ⟨a1,c1,rfl,hX,hC,hF⟩;have C1:Hid _:=hC;have X_1:Hid _:=hX;clear hC hF hX))
 go_loopw [5] (fun v wr=>∃(m:Nat) (l:List Nd) (q:Ps) (Q:Nat→Bool) (a:Option Addr) (c:Nat),v=.slice a l.length c∧Hid (FN (hd w Q) wr (.slice a l.length c) l)∧Hid (Cur E w g Q wr q)∧Hid (m≤f∧pz E.zs E.T m 1 n [l] q=([l9],cy,sy)∧need E.T 1 q≤m∧tot [l]≤20*q.at_+10)) (fun _ wr=>msW E.T g wr)
 case atStart=>exact ⟨f,ls1,s1,no,_,_,rfl,X_1,C1,⟨Nat.le_refl _,HY.out.1,HY.out.2.1,HY.out.2.2⟩⟩
 case round =>
  obtain ⟨m,l,q,Q,a,c,rfl,X_10,C10,H3⟩:=hrel
  obtain ⟨hm,hpz,hnd,htot⟩:=H3.out
  have hms:=C10.out.ms
  have hq6:=C10.out.le
  have d3:=C10.out.c3
  cases m with
  |zero=>have:=need_pos E.T 1 q (by decide) (by decide);omega
  |succ m =>
   rw [pz_1] at hpz
   unfold pB1 at hpz
   dsimp only at hpz
   have nn:(0≤q.bad∧1≤m+1)∨(q.bad<0∧20*(E.T.length-q.at_)+5≤m+1):=by
    rcases need_or E.T 1 q with ⟨a,b⟩|⟨a,b⟩
    ·exact .inl ⟨a,by rw [b] at hnd;exact hnd⟩
    ·exact .inr ⟨a,by rw [b] at hnd;exact hnd⟩
   by_cases hb:0≤q.bad
   ·rw [if_pos hb] at hpz
    injection hpz with e1 e2
    injection e2 with e2 e3
    injection e1 with e1 _e4
    subst e1 e2 e3
    have i1:¬q.bad<0:=by omega
    clear hnd H3 nn htot
    go_wp2
    go_returns
    exact C10.out.done X_10.out rfl
   ·rw [if_neg hb] at hpz
    have i1:q.bad<0:=by omega
    obtain ⟨kd,nn2,b,ho,hb0,hb6⟩:=oper_shape E.zs E.T q
    have HO:Hid _:=ho
    rw [ho] at hpz
    dsimp only at hpz
    by_cases hq:b<n∨b=0
    ·rw [if_pos hq] at hpz
     injection hpz with e1 e2
     injection e2 with e2 e3
     injection e1 with e1 _e4
     subst e1 e2 e3
     have i2:b<n:=by omega
     clear hnd H3 nn htot
     go_wp2_with (go_at_call 92;refine (C10.out.oper HO.out).mono ?_;rintro e w11 ⟨rfl,hC,hF⟩;have C11:Hid _:=hC;have X_11:Hid _:=C10.out.fn hF X_10.out;clear hC hF)
     go_returns
     exact ((C11.out.bel (bel_alloc _ _)).1).done (C11.out.fn (C11.out.bel (bel_alloc _ _)).2 X_11.out) rfl
    ·rw [if_neg hq] at hpz
     have hlt:=oper_lt (zs:=E.zs) (T:=E.T) (s:=q) (by rw [ho];omega)
     have i2:¬b<n:=by omega
     have i3:¬b=0:=by omega
     have gs:(step q).at_=q.at_+1:=rfl
     have h4:b=4∨¬b=4:=by omega
     rcases h4 with rfl|h4
     ·rw [if_pos rfl] at hpz
      obtain ⟨l2,c2,q2,R2,D2⟩:=(HA.out m (by omega)).bin (4) (step q) (by omega) (by omega) (by have n2:=need_le E.T 0 (step q) (by decide);have:cOk 0=6:=rfl;omega)
      rw [R2.1] at hpz
      dsimp only at hpz
      have ga:=R2.2.1
      have gt:=R2.2.2.2
      have HD2:Hid _:=D2
      have HR2:Hid _:=R2
      have HN:Hid ((m≤f∧pz E.zs E.T m 1 n [tk.node ⟨kd,nn2,[],[],0⟩ [l,l2]] q2=([l9],cy,sy)∧need E.T 1 q2≤m∧tot [tk.node ⟨kd,nn2,[],[],0⟩ [l,l2]]≤20*q2.at_+10)∧q.at_<q2.at_):=⟨⟨by omega,hpz,by have n2:=need_le E.T 1 q2 (by decide);have:cOk 1=5:=rfl;omega,by rw [tot_node,show [l,l2]=[l]++[l2] from rfl,tot_app];omega⟩,by omega⟩
      have HL:Hid (q.at_<E.T.length∧tot [l]≤20*q.at_+10):=⟨hlt.2,htot⟩
      have i9:q.at_<6000:=by omega
      clear hpz hnd H3 nn htot ga gt R2 D2 gs hlt ho
      go_wp2_with (first
       |(go_at_call 31;refine (C13.out.nodeL (nd:=⟨kd,nn2,[],[],0⟩) (kr_two X_13.out Y_13.out) rfl (rdV_nil _) (rdVV_nil _) (by have h1:=HL.out;have h2:=tot_le HR2.out C13.out;rw [show [l,l2]=[l]++[l2] from rfl,tot_app];omega) (by simp)).mono ?_;rintro e w14 ⟨a14,c14,rfl,hX,hC,hF⟩;have C14:Hid _:=hC;have X_14:Hid _:=hX;clear hC hF hX)
       |(go_at_call 57;refine (CS.out.call HD2.out).mono ?_;rintro e w13 ⟨a13,c13,rfl,hX,hC,hF⟩;have C13:Hid _:=hC;have Y_13:Hid _:=hX;have X_13:Hid _:=CS.out.fn hF XS.out;have N_13:Hid (NB w QB w13 w11.heap.size [.int .i64 kd,.int .i64 nn2,.slice none 0 0,.slice none 0 0,.int .i64 0]):=CS.out.nb hF NS.out;have y0:w13.cell? ⟨w11.heap.size,0,none⟩=some (.int .i64 kd):=N_13.out.1.at (j:=0) (by omega);have y1:w13.cell? ⟨w11.heap.size,1,none⟩=some (.int .i64 nn2):=N_13.out.1.at (j:=1) (by omega);have y2:w13.cell? ⟨w11.heap.size,2,none⟩=some (.slice none 0 0):=N_13.out.1.at (j:=2) (by omega);have y3:w13.cell? ⟨w11.heap.size,3,none⟩=some (.slice none 0 0):=N_13.out.1.at (j:=3) (by omega);have y4:w13.cell? ⟨w11.heap.size,4,none⟩=some (.int .i64 0):=N_13.out.1.at (j:=4) (by omega);clear hC hF hX)
       |(go_at_call 92;refine (C10.out.oper HO.out).mono ?_;rintro e w11 ⟨rfl,hC,hF⟩;have C11:Hid _:=hC;have X_11:Hid _:=C10.out.fn hF X_10.out;clear hC hF;obtain ⟨QB,hCB,hNB,hMB⟩:=C11.out.newNb (xs:=[.int .i64 kd,.int .i64 nn2,.slice none 0 0,.slice none 0 0,.int .i64 0]) rfl;have CB:Hid _:=hCB;have p2:=CB.out.c2;have p2f:=CB.out.free 2;obtain ⟨hCS,hFS⟩:=hCB.setStep HL.out.1;have CS:Hid _:=hCS;have NS:Hid _:=hCB.nb hFS hNB;have XS:Hid _:=hCB.fn hFS (hMB.fn X_11.out);clear hCB hNB hMB hCS hFS))
      go_roundw
      case rel=>exact ⟨m,tk.node ⟨kd,nn2,[],[],0⟩ [l,l2],q2,QB,a14,c14,rfl,X_14,C14,HN.out.1⟩
      case measure =>
       have:=C14.out.ms
       have:=C14.out.le
       have:=HN.out.2
       have:=ms_lt (T:=E.T) (s:=q) (s':=q2) (by omega) (by omega)
       omega
     ·rw [if_neg h4] at hpz
      have e4:(b==4)=false:=by simp;omega
      have e0:(b==0)=false:=by simp;omega
      obtain ⟨l2,c2,q2,R2,D2⟩:=(HA.out m (by omega)).bin (b+1) (step q) (by omega) (by omega) (by have n2:=need_le E.T 0 (step q) (by decide);have:cOk 0=6:=rfl;omega)
      rw [R2.1] at hpz
      dsimp only at hpz
      have ga:=R2.2.1
      have gt:=R2.2.2.2
      have HD2:Hid _:=D2
      have HR2:Hid _:=R2
      have HN:Hid ((m≤f∧pz E.zs E.T m 1 n [tk.node ⟨kd,nn2,[],[],0⟩ [l,l2]] q2=([l9],cy,sy)∧need E.T 1 q2≤m∧tot [tk.node ⟨kd,nn2,[],[],0⟩ [l,l2]]≤20*q2.at_+10)∧q.at_<q2.at_):=⟨⟨by omega,hpz,by have n2:=need_le E.T 1 q2 (by decide);have:cOk 1=5:=rfl;omega,by rw [tot_node,show [l,l2]=[l]++[l2] from rfl,tot_app];omega⟩,by omega⟩
      have HL:Hid (q.at_<E.T.length∧tot [l]≤20*q.at_+10):=⟨hlt.2,htot⟩
      have i9:q.at_<6000:=by omega
      clear hpz hnd H3 nn htot ga gt R2 D2 gs hlt ho
      go_wp2_with (first
       |(go_at_call 31;refine (C13.out.nodeL (nd:=⟨kd,nn2,[],[],0⟩) (kr_two X_13.out Y_13.out) rfl (rdV_nil _) (rdVV_nil _) (by have h1:=HL.out;have h2:=tot_le HR2.out C13.out;rw [show [l,l2]=[l]++[l2] from rfl,tot_app];omega) (by simp)).mono ?_;rintro e w14 ⟨a14,c14,rfl,hX,hC,hF⟩;have C14:Hid _:=hC;have X_14:Hid _:=hX;clear hC hF hX)
       |(go_at_call 57;refine (CS.out.call HD2.out).mono ?_;rintro e w13 ⟨a13,c13,rfl,hX,hC,hF⟩;have C13:Hid _:=hC;have Y_13:Hid _:=hX;have X_13:Hid _:=CS.out.fn hF XS.out;have N_13:Hid (NB w QB w13 w11.heap.size [.int .i64 kd,.int .i64 nn2,.slice none 0 0,.slice none 0 0,.int .i64 0]):=CS.out.nb hF NS.out;have y0:w13.cell? ⟨w11.heap.size,0,none⟩=some (.int .i64 kd):=N_13.out.1.at (j:=0) (by omega);have y1:w13.cell? ⟨w11.heap.size,1,none⟩=some (.int .i64 nn2):=N_13.out.1.at (j:=1) (by omega);have y2:w13.cell? ⟨w11.heap.size,2,none⟩=some (.slice none 0 0):=N_13.out.1.at (j:=2) (by omega);have y3:w13.cell? ⟨w11.heap.size,3,none⟩=some (.slice none 0 0):=N_13.out.1.at (j:=3) (by omega);have y4:w13.cell? ⟨w11.heap.size,4,none⟩=some (.int .i64 0):=N_13.out.1.at (j:=4) (by omega);clear hC hF hX)
       |(go_at_call 92;refine (C10.out.oper HO.out).mono ?_;rintro e w11 ⟨rfl,hC,hF⟩;have C11:Hid _:=hC;have X_11:Hid _:=C10.out.fn hF X_10.out;clear hC hF;obtain ⟨QB,hCB,hNB,hMB⟩:=C11.out.newNb (xs:=[.int .i64 kd,.int .i64 nn2,.slice none 0 0,.slice none 0 0,.int .i64 0]) rfl;have CB:Hid _:=hCB;have p2:=CB.out.c2;have p2f:=CB.out.free 2;obtain ⟨hCS,hFS⟩:=hCB.setStep HL.out.1;have CS:Hid _:=hCS;have NS:Hid _:=hCB.nb hFS hNB;have XS:Hid _:=hCB.fn hFS (hMB.fn X_11.out);clear hCB hNB hMB hCS hFS))
      go_roundw
      case rel=>exact ⟨m,tk.node ⟨kd,nn2,[],[],0⟩ [l,l2],q2,QB,a14,c14,rfl,X_14,C14,HN.out.1⟩
      case measure =>
       have:=C14.out.ms
       have:=C14.out.le
       have:=HN.out.2
       have:=ms_lt (T:=E.T) (s:=q) (s':=q2) (by omega) (by omega)
       omega
end ps
end Go.Proofs.YtkmiagkehcflnaaGreatDoor
