import Derived.Test.YtkmiagkehcflnaaGreatDoorMPsFunc
import Derived.Test.YtkmiagkehcflnaaGreatDoorMPsBin
set_option maxRecDepth 100000
set_option maxHeartbeats 8000000
namespace Go.Proofs.YtkmiagkehcflnaaGreatDoor
namespace ps
open Go.RowKit bts nod lex tk
theorem fn_name {B:Nat→Bool} {W:World} {T U:TypeId} {k:Int} {u:Value} {y:List Int} (hB:∀b,W.heap.size≤b→B b=false) (h:RdV (veil B W) u y):FN B ((W.alloc (.cells #[u] T)).alloc (.cells #[.int .i64 k,.int .i64 0,.slice none 0 0,.slice (some ⟨W.heap.size,0,none⟩) 1 1,.int .i64 0] U)) (.slice (some ⟨W.heap.size+1,0,none⟩) 1 1) [⟨k,0,[],[y],0⟩]:=by
 have h1:=rdVV_one (T:=T) (hB _ (Nat.le_refl _)) h
 have h2:=fn_one (B:=B) (w:=W.alloc (.cells #[u] T)) (T:=U) (k:=k) (n:=0) (c:=0) (hB _ (by simp)) (rdV_nil _) h1
 simpa using h2
theorem Cur.nodeB {E:En} {Q:Nat→Bool} {w W:World} {g b:Nat} {s:Ps} {ks:List (List Nd)} (C:Cur E w g Q W s) (hb:b=W.heap.size) {us:List Value} {ut un:Value} {nd:Nd} {n:Nat} (hK:KR (hd w Q) W us ks) (hl:n=us.length) (ht:RdV (veil (hd w Q) W) ut nd.text) (hn:RdVV (veil (hd w Q) W) un nd.names) (hs:tot ks≤900000) (hkl:ks.length≤900000) :
  Calls Tryz.prog 31 #[.agg #[.int .i64 nd.kind,.int .i64 nd.n,ut,un,.int .i64 nd.count],.slice (some ⟨b,0,none⟩) n n] (W.alloc (.cells us.toArray 23)) fun e w'=>∃a c,e=.returned (.slice a (tk.node nd ks).length c)∧FN (hd w Q) w' (.slice a (tk.node nd ks).length c) (tk.node nd ks)∧Cur E w g Q w' s∧Fq g W w':=by
 subst hb
 exact C.nodeL hK hl ht hn hs hkl
theorem Cur.doneB {E:En} {Q:Nat→Bool} {w W:World} {g:Nat} {s:Ps} {l:List Nd} (C:Cur E w g Q W s) {a:Option Addr} {n c:Nat} {b:Int} (h:FN (hd w Q) W (.slice a n c) l) (hn:n=l.length):∃a' c',Ending.returned (.tuple #[.slice a n c,.int .u8 b])=.returned (.tuple #[.slice a' l.length c',.int .u8 b])∧FN (tk.lt w.heap.size) W (.slice a' l.length c') l∧E.pp W g s∧Fq g w W:=by
 subst hn
 exact ⟨a,c,rfl,fn_drop h,C.pp,C.fq⟩
theorem suf_one {zs:List Int} {T:List (Int×Nat×Nat)}:∀(m:Nat) (n:Int) (l:List Nd) (q:Ps),need T 5 q≤m→∃l9,(pz zs T m 5 n [l] q).1=[l9]:=by
 intro m
 induction m with
 |zero=>intro n l q hm;have:=need_pos T 5 q (by decide) (by decide);omega
 |succ m ih =>
  intro n l q hm
  have nn:(0≤q.bad∧need T 5 q=1)∨(q.bad<0∧need T 5 q=20*(T.length-q.at_)+2):=need_or T 5 q
  rw [pz_5]
  unfold pB5
  dsimp only
  by_cases hb:0≤q.bad
  ·rw [if_pos hb];exact ⟨l,rfl⟩
  ·rw [if_neg hb]
   by_cases h1:isP zs T q {data:=#[46]}=true
   ·rw [if_pos h1]
    have g1:=got_yes h1
    have b1:=is_bad h1
    exact ih _ _ _ (by have n2:=need_le T 5 (nameS zs T (got zs T q {data:=#[46]})) (by decide);have:cOk 5=2:=rfl;have:=name_at zs T (got zs T q {data:=#[46]});omega)
   ·rw [if_neg h1]
    by_cases h2:isP zs T q {data:=#[91]}=true
    ·rw [if_pos h2]
     have g1:=got_yes h2
     have b1:=is_bad h2
     refine ih _ _ _ ?_
     have hy:=(gd_at (pz_gd zs T m 0 1 [] (got zs T q {data:=#[91]}) (by decide) (by have n2:=need_le T 0 (got zs T q {data:=#[91]}) (by decide);have:cOk 0=6:=rfl;omega))).1
     generalize pz zs T m 0 1 [] (got zs T q {data:=#[91]})=y at hy
     have n2:=need_le T 5 (want zs T y.2.2 {data:=#[93]}) (by decide)
     have:cOk 5=2:=rfl
     have:=want_at zs T y.2.2 {data:=#[93]}
     omega
    ·rw [if_neg h2]
     by_cases h3:isP zs T q {data:=#[40]}=true
     ·rw [if_pos h3]
      have g1:=got_yes h3
      have b1:=is_bad h3
      refine ih _ _ _ ?_
      split
      ·have n2:=need_le T 5 (want zs T (got zs T q {data:=#[40]}) {data:=#[41]}) (by decide)
       have:cOk 5=2:=rfl
       have:=want_at zs T (got zs T q {data:=#[40]}) {data:=#[41]}
       dsimp only
       omega
      ·have hy:=(gd_at (pz_gd zs T m 6 0 [] (got zs T q {data:=#[40]}) (by decide) (by have n2:=need_le T 6 (got zs T q {data:=#[40]}) (by decide);have:cOk 6=7:=rfl;omega))).1
       generalize pz zs T m 6 0 [] (got zs T q {data:=#[40]})=y at hy
       dsimp only
       have n2:=need_le T 5 (want zs T y.2.2 {data:=#[41]}) (by decide)
       have:cOk 5=2:=rfl
       have:=want_at zs T y.2.2 {data:=#[41]}
       omega
     ·rw [if_neg h3];exact ⟨l,rfl⟩
theorem suf_next {E:En} (ok:E.ok) {f:Nat} (AA:∀m,m≤f→Al E m) (s:Ps) (hn0:need E.T 4 s≤f+1):∃l c s',Rs E (f+1) 4 0 s [l] c s'∧NodsB E 93 ag1 s l c s':=by
 have hn:(0≤s.bad∧2≤f+1)∨(s.bad<0∧20*(E.T.length-s.at_)+3≤f+1):=nx hn0 rfl rfl
 have A:=AA f (Nat.le_refl _)
 by_cases h1:isP E.zs E.T s {data:=#[40]}=true
 ·skip
  obtain ⟨s1,es1⟩:∃x,got E.zs E.T s {data:=#[40]}=x:=⟨_,rfl⟩
  have gs1:s1.at_=s.at_+1∧s1.bad=s.bad:=by rw [← es1];exact got_yes h1
  have bs1:=is_bad h1
  obtain ⟨ls2,cs2,s2,Rs2,Ds2⟩:=A.bin 1 s1 (by omega) (by omega) (nd 0 5 6 rfl rfl (by omega))
  have gs2:s1.at_≤s2.at_∧(0≤s1.bad→0≤s2.bad):=⟨Rs2.2.1,Rs2.2.2.1⟩
  obtain ⟨s3,es3⟩:∃x,want E.zs E.T s2 {data:=#[41]}=x:=⟨_,rfl⟩
  have gs3:(s3.at_=s2.at_+1∧s2.at_<E.T.length∧s2.bad<0∧s3.bad=s2.bad)∨(s3.at_=s2.at_∧0≤s3.bad):=by rw [← es3];exact want_f _ _ _ _
  have nY:need E.T 5 s3≤f:=(nd 5 1 2 rfl rfl (by omega))
  obtain ⟨Y,hY⟩:∃Y,pz E.zs E.T f 5 0 [ls2] s3=Y:=⟨_,rfl⟩
  obtain ⟨l9,h9⟩:=suf_one (zs:=E.zs) (T:=E.T) f 0 (ls2) s3 nY
  rw [hY] at h9
  obtain ⟨ys,cy,sy⟩:=Y
  dsimp only at h9
  subst h9
  refine ⟨l9,cy,sy,rs_of (by decide) hn0 (by rw [pz_4];unfold pB4;dsimp only;simp only [if_pos h1,es1,Rs2.1,es3,hY]) (by decide),fun w g hP=>?_⟩
  have C0:Hid (Cur E w g no w s):=Cur.start ok hP
  have HRs2:Hid _:=Rs2
  have HDs2:Hid _:=Ds2
  have HY:Hid (pz E.zs E.T f 5 0 [ls2] s3=([l9],cy,sy)∧need E.T 5 s3≤f∧tot [ls2]≤20*s3.at_+10):=⟨hY,nY,by have:=Rs2.2.2.2;omega⟩
  have HA:Hid (∀m,m≤f→Al E m):=AA
  have HM:E.T.length≤6000:=ok.many
  clear hP hn hn0 AA A hY nY Rs2 Ds2 gs1 bs1 gs2 gs3
  unfold ag1
  go_enter Tryz.func93,Tryz.ntmps93
  go_wp2_with (first
   |(go_at_call 61;refine (C2.out.want es3).mono ?_;rintro e w3 ⟨⟨v3,rfl⟩,hC,hF⟩;have C3:Hid _:=hC;have X_3:Hid _:=C2.out.fn hF X_2.out;clear hC hF)
   |(go_at_call 57;refine (C1.out.call HDs2.out).mono ?_;rintro e w2 ⟨a2,c2,rfl,hX,hC,hF⟩;have C2:Hid _:=hC;have X_2:Hid _:=hX;clear hC hF hX)
   |(go_at_call 28;refine (C0.out.got h1 es1).mono ?_;rintro e w1 ⟨rfl,hC,hF⟩;have C1:Hid _:=hC;clear hC hF))
  go_loopw [4,5] (fun v u wr=>∃(m:Nat) (n:Int) (l:List Nd) (q:Ps) (Q:Nat→Bool) (a:Option Addr) (c:Nat),v=.slice a l.length c∧u=.int .u8 n∧Hid (FN (hd w Q) wr (.slice a l.length c) l)∧Hid (Cur E w g Q wr q)∧Hid (m≤f∧pz E.zs E.T m 5 n [l] q=([l9],cy,sy)∧need E.T 5 q≤m∧tot [l]≤20*q.at_+10)) (fun _ _ wr=>msW E.T g wr)
  case atStart=>exact ⟨f,0,ls2,s3,no,_,_,rfl,rfl,X_3,C3,⟨Nat.le_refl _,HY.out.1,HY.out.2.1,HY.out.2.2⟩⟩
  case round =>
   obtain ⟨m,n,l,q,Q,a,c,rfl,rfl,X_10,C10,H3⟩:=hrel
   obtain ⟨hm,hpz,hnd,htot⟩:=H3.out
   have hms:=C10.out.ms
   have hq6:=C10.out.le
   have d3:=C10.out.c3
   cases m with
   |zero=>have:=need_pos E.T 5 q (by decide) (by decide);omega
   |succ m =>
    rw [pz_5] at hpz
    unfold pB5 at hpz
    dsimp only at hpz
    have nn:(0≤q.bad∧1≤m+1)∨(q.bad<0∧20*(E.T.length-q.at_)+2≤m+1):=by
     rcases need_or E.T 5 q with ⟨a,b⟩|⟨a,b⟩
     ·exact .inl ⟨a,by rw [b] at hnd;exact hnd⟩
     ·exact .inr ⟨a,by rw [b] at hnd;exact hnd⟩
    by_cases hb:0≤q.bad
    ·rw [if_pos hb] at hpz
     injection hpz with e1 e2
     injection e2 with e2 e3
     injection e1 with e1 _e4
     subst e1 e2 e3
     have i1:¬q.bad<0:=by omega
     clear hnd H3 nn htot
     go_wp2
     go_returns
     exact C10.out.doneB X_10.out rfl
    ·rw [if_neg hb] at hpz
     by_cases h1:isP E.zs E.T q {data:=#[46]}=true
     ·rw [if_pos h1] at hpz
      obtain ⟨s41,es41⟩:∃x,got E.zs E.T q {data:=#[46]}=x:=⟨_,rfl⟩
      have gs41:s41.at_=q.at_+1∧s41.bad=q.bad:=by rw [← es41];exact got_yes h1
      have bs41:=is_bad h1
      obtain ⟨s42,es42⟩:∃x,nameS E.zs E.T s41=x:=⟨_,rfl⟩
      obtain ⟨ts42,ets42⟩:∃x,nameT E.zs E.T s41=x:=⟨_,rfl⟩
      have gs42:(s42.at_=s41.at_+1∧s41.at_<E.T.length∧s41.bad<0∧s42.bad=s41.bad)∨(s42.at_=s41.at_∧0≤s42.bad):=by rw [← es42];exact name_f _ _ _
      simp only [es41,es42,ets42] at hpz
      have HN:Hid ((m≤f∧pz E.zs E.T m 5 116 [tk.node (bare 17) [l,[Nd.mk 15 0 ts42 [] 0]]] s42=([l9],cy,sy)∧need E.T 5 s42≤m∧tot [tk.node (bare 17) [l,[Nd.mk 15 0 ts42 [] 0]]]≤20*s42.at_+10)∧q.at_<s42.at_):=⟨⟨by omega,hpz,(nd 5 1 2 rfl rfl (by omega)),by rw [tot_node,show [l,[Nd.mk 15 0 ts42 [] 0]]=[l]++[[Nd.mk 15 0 ts42 [] 0]] from rfl,tot_app,tot_one];omega⟩,by omega⟩
      have HT:Hid (tot [l]≤20*q.at_+10):=htot
      have i1:q.bad<0:=by omega
      clear hpz hnd H3 nn htot gs41 bs41 gs42
      go_wp2_with (first
       |(go_at_call 31;refine (CA.out.nodeB (by simp) (nd:=bare 17) (kr_two XA.out KA.out) rfl (rdV_nil _) (rdVV_nil _) (by have h1:=HT.out;rw [show [l,[Nd.mk 15 0 ts42 [] 0]]=[l]++[[Nd.mk 15 0 ts42 [] 0]] from rfl,tot_app,tot_one];omega) (by simp)).mono ?_;rintro e w13 ⟨a13,c13,rfl,hX,hC,hF⟩;have C13:Hid _:=hC;have N_13:Hid _:=hX;clear hC hF hX)
       |(go_at_call 58;refine (C11.out.name ets42 es42).mono ?_;rintro e w12 ⟨a12,c12,rfl,hX,hC,hF⟩;have C12:Hid _:=hC;have X_12:Hid _:=C11.out.fn hF X_11.out;have V_12:Hid _:=hX;clear hC hF hX;obtain ⟨hCA,hFA⟩:=C12.out.bel (bel_alloc _ (.cells #[.int .i64 15,.int .i64 0,.slice a12 ts42.length c12,.slice none 0 0,.int .i64 0] 61));have CA:Hid (Cur E w g Q (w12.alloc (.cells #[.int .i64 15,.int .i64 0,.slice a12 ts42.length c12,.slice none 0 0,.int .i64 0] 61)) s42):=hCA;have XA:Hid (FN (hd w Q) (w12.alloc (.cells #[.int .i64 15,.int .i64 0,.slice a12 ts42.length c12,.slice none 0 0,.int .i64 0] 61)) (.slice a l.length c) l):=C12.out.fn hFA X_12.out;have KA:Hid (FN (hd w Q) (w12.alloc (.cells #[.int .i64 15,.int .i64 0,.slice a12 ts42.length c12,.slice none 0 0,.int .i64 0] 61)) (.slice (some ⟨w12.heap.size,0,none⟩) 1 1) [Nd.mk 15 0 ts42 [] 0]):=fn_one (C12.out.new (Nat.le_refl _)) V_12.out (rdVV_nil _);clear hCA hFA)
       |(go_at_call 28;refine (C10.out.got h1 es41).mono ?_;rintro e w11 ⟨rfl,hC,hF⟩;have C11:Hid _:=hC;have X_11:Hid _:=C10.out.fn hF X_10.out;clear hC hF))
      go_roundw
      case rel=>exact ⟨m,116,tk.node (bare 17) [l,[Nd.mk 15 0 ts42 [] 0]],s42,_,_,_,rfl,rfl,N_13,C13,HN.out.1⟩
      case measure =>
       have:=C13.out.ms
       have:=C13.out.le
       have:=HN.out.2
       have:=ms_lt (T:=E.T) (s:=q) (s':=s42) (by omega) (by omega)
       omega
     ·rw [if_neg h1] at hpz
      by_cases h2:isP E.zs E.T q {data:=#[91]}=true
      ·rw [if_pos h2] at hpz
       obtain ⟨s41,es41⟩:∃x,got E.zs E.T q {data:=#[91]}=x:=⟨_,rfl⟩
       have gs41:s41.at_=q.at_+1∧s41.bad=q.bad:=by rw [← es41];exact got_yes h2
       have bs41:=is_bad h2
       obtain ⟨ls42,cs42,s42,Rs42,Ds42⟩:=(HA.out m (by omega)).bin 1 s41 (by omega) (by omega) (nd 0 5 6 rfl rfl (by omega))
       have gs42:s41.at_≤s42.at_∧(0≤s41.bad→0≤s42.bad):=⟨Rs42.2.1,Rs42.2.2.1⟩
       obtain ⟨s43,es43⟩:∃x,want E.zs E.T s42 {data:=#[93]}=x:=⟨_,rfl⟩
       have gs43:(s43.at_=s42.at_+1∧s42.at_<E.T.length∧s42.bad<0∧s43.bad=s42.bad)∨(s43.at_=s42.at_∧0≤s43.bad):=by rw [← es43];exact want_f _ _ _ _
       simp only [es41,Rs42.1,es43] at hpz
       have t2:=Rs42.2.2.2
       have HN:Hid ((m≤f∧pz E.zs E.T m 5 116 [tk.node (bare 17) [l,ls42]] s43=([l9],cy,sy)∧need E.T 5 s43≤m∧tot [tk.node (bare 17) [l,ls42]]≤20*s43.at_+10)∧q.at_<s43.at_):=⟨⟨by omega,hpz,(nd 5 1 2 rfl rfl (by omega)),by rw [tot_node,show [l,ls42]=[l]++[ls42] from rfl,tot_app];omega⟩,by omega⟩
       have HT:Hid (tot [l]≤20*q.at_+10):=htot
       have HRs42:Hid _:=Rs42
       have HDs42:Hid _:=Ds42
       have i1:q.bad<0:=by omega
       clear hpz hnd H3 nn htot Rs42 Ds42 gs41 bs41 gs42 gs43 t2
       go_wp2_with (first
        |(go_at_call 31;refine (C14.out.nodeL (nd:=bare 17) (kr_two X_14.out Y_14.out) rfl (rdV_nil _) (rdVV_nil _) (by have h1:=HT.out;have h2:=tot_le HRs42.out C13.out;rw [show [l,ls42]=[l]++[ls42] from rfl,tot_app];omega) (by simp)).mono ?_;rintro e w15 ⟨a15,c15,rfl,hX,hC,hF⟩;have C15:Hid _:=hC;have N_15:Hid _:=hX;clear hC hF hX)
        |(go_at_call 61;refine (C13.out.want es43).mono ?_;rintro e w14 ⟨⟨v14,rfl⟩,hC,hF⟩;have C14:Hid _:=hC;have X_14:Hid _:=C13.out.fn hF X_13.out;have Y_14:Hid _:=C13.out.fn hF Y_13.out;clear hC hF)
        |(go_at_call 57;refine (C12.out.call HDs42.out).mono ?_;rintro e w13 ⟨a13,c13,rfl,hX,hC,hF⟩;have C13:Hid _:=hC;have X_13:Hid _:=C12.out.fn hF X_12.out;have Y_13:Hid _:=hX;clear hC hF hX)
        |(go_at_call 28;refine (C11.out.got h2 es41).mono ?_;rintro e w12 ⟨rfl,hC,hF⟩;have C12:Hid _:=hC;have X_12:Hid _:=C11.out.fn hF X_11.out;clear hC hF)
        |(go_at_call 28;refine (C10.out.got (bool_no h1) (got_no h1)).mono ?_;rintro e w11 ⟨rfl,hC,hF⟩;have C11:Hid _:=hC;have X_11:Hid _:=C10.out.fn hF X_10.out;clear hC hF))
       go_roundw
       case rel=>exact ⟨m,116,tk.node (bare 17) [l,ls42],s43,_,_,_,rfl,rfl,N_15,C15,HN.out.1⟩
       case measure =>
        have:=C15.out.ms
        have:=C15.out.le
        have:=HN.out.2
        have:=ms_lt (T:=E.T) (s:=q) (s':=s43) (by omega) (by omega)
        omega
      ·rw [if_neg h2] at hpz
       by_cases h3:isP E.zs E.T q {data:=#[40]}=true
       ·rw [if_pos h3] at hpz
        obtain ⟨s41,es41⟩:∃x,got E.zs E.T q {data:=#[40]}=x:=⟨_,rfl⟩
        have gs41:s41.at_=q.at_+1∧s41.bad=q.bad:=by rw [← es41];exact got_yes h3
        have bs41:=is_bad h3
        simp only [es41] at hpz
        by_cases h4:isP E.zs E.T s41 {data:=#[41]}=true
        ·simp only [if_pos h4] at hpz
         obtain ⟨s42,es42⟩:∃x,want E.zs E.T s41 {data:=#[41]}=x:=⟨_,rfl⟩
         have gs42:(s42.at_=s41.at_+1∧s41.at_<E.T.length∧s41.bad<0∧s42.bad=s41.bad)∨(s42.at_=s41.at_∧0≤s42.bad):=by rw [← es42];exact want_f _ _ _ _
         simp only [es42] at hpz
         have HN:Hid ((m≤f∧pz E.zs E.T m 5 99 [tk.node (bare 18) [l]] s42=([l9],cy,sy)∧need E.T 5 s42≤m∧tot [tk.node (bare 18) [l]]≤20*s42.at_+10)∧q.at_<s42.at_):=⟨⟨by omega,hpz,(nd 5 1 2 rfl rfl (by omega)),by rw [tot_node];omega⟩,by omega⟩
         have HT:Hid (tot [l]≤20*q.at_+10):=htot
         have i1:q.bad<0:=by omega
         clear hpz hnd H3 nn htot gs41 bs41 gs42
         go_wp2_with (first
          |(go_at_call 31;refine (C15.out.nodeK (n:=bare 18) K_15.out (rdV_nil _) (rdVV_nil _) (by have h1:=HT.out;omega) (by simp)).mono ?_;rintro e w16 ⟨a16,c16,rfl,hX,hC,hF⟩;have C16:Hid _:=hC;have N_16:Hid _:=hX;clear hC hF hX)
          |(go_at_call 61;refine (C14.out.want es42).mono ?_;rintro e w15 ⟨⟨v15,rfl⟩,hC,hF⟩;have C15:Hid _:=hC;have K_15:Hid _:=C14.out.kids hF K_14.out;clear hC hF)
          |(go_at_call 55;obtain ⟨Ql13,hCl,hKl,hMl⟩:=C13.out.lit (kr_one X_13.out) rfl (by simp);have CL13:Hid _:=hCl;have K_L13:Hid _:=hKl;clear hCl hKl hMl;refine (CL13.out.is h4).mono ?_;rintro e w14 ⟨rfl,hC,hF⟩;have C14:Hid _:=hC;have K_14:Hid _:=CL13.out.kids hF K_L13.out;clear hC hF)
          |(go_at_call 28;refine (C12.out.got h3 es41).mono ?_;rintro e w13 ⟨rfl,hC,hF⟩;have C13:Hid _:=hC;have X_13:Hid _:=C12.out.fn hF X_12.out;clear hC hF)
          |(go_at_call 28;refine (C11.out.got (bool_no h2) (got_no h2)).mono ?_;rintro e w12 ⟨rfl,hC,hF⟩;have C12:Hid _:=hC;have X_12:Hid _:=C11.out.fn hF X_11.out;clear hC hF)
          |(go_at_call 28;refine (C10.out.got (bool_no h1) (got_no h1)).mono ?_;rintro e w11 ⟨rfl,hC,hF⟩;have C11:Hid _:=hC;have X_11:Hid _:=C10.out.fn hF X_10.out;clear hC hF))
         go_roundw
         case rel=>exact ⟨m,99,tk.node (bare 18) [l],s42,_,_,_,rfl,rfl,N_16,C16,HN.out.1⟩
         case measure =>
          have:=C16.out.ms
          have:=C16.out.le
          have:=HN.out.2
          have:=ms_lt (T:=E.T) (s:=q) (s':=s42) (by omega) (by omega)
          omega
        ·simp only [if_neg h4] at hpz
         obtain ⟨ls42,cs42,s42,Rs42,qs42,Ds42⟩:=(HA.out m (by omega)).exs s41 (nd 6 6 7 rfl rfl (by omega))
         have gs42:s41.at_≤s42.at_∧(0≤s41.bad→0≤s42.bad):=⟨Rs42.2.1,Rs42.2.2.1⟩
         obtain ⟨s43,es43⟩:∃x,want E.zs E.T s42 {data:=#[41]}=x:=⟨_,rfl⟩
         have gs43:(s43.at_=s42.at_+1∧s42.at_<E.T.length∧s42.bad<0∧s43.bad=s42.bad)∨(s43.at_=s42.at_∧0≤s43.bad):=by rw [← es43];exact want_f _ _ _ _
         simp only [Rs42.1,es43] at hpz
         have t2:=Rs42.2.2.2
         have HN:Hid ((m≤f∧pz E.zs E.T m 5 99 [tk.node (bare 18) ([l]++ls42)] s43=([l9],cy,sy)∧need E.T 5 s43≤m∧tot [tk.node (bare 18) ([l]++ls42)]≤20*s43.at_+10)∧q.at_<s43.at_):=⟨⟨by omega,hpz,(nd 5 1 2 rfl rfl (by omega)),by rw [tot_node,tot_app];omega⟩,by omega⟩
         have HT:Hid (tot [l]≤20*q.at_+10):=htot
         have HRs42:Hid _:=Rs42
         have HDs42:Hid _:=Ds42
         have Hqs42:Hid _:=qs42
         have i1:q.bad<0:=by omega
         clear hpz hnd H3 nn htot Rs42 Ds42 qs42 gs41 bs41 gs42 gs43 t2
         go_wp2_with (first
          |(go_at_call 31;refine (C17.out.nodeK (n:=bare 18) K_17.out (rdV_nil _) (rdVV_nil _) (by have h1:=HT.out;have h2:=tot_le HRs42.out C15.out;rw [tot_app];omega) (by have:=Hqs42.out;have:=C15.out.le;simp;omega)).mono ?_;rintro e w18 ⟨a18,c18,rfl,hX,hC,hF⟩;have C18:Hid _:=hC;have N_18:Hid _:=hX;clear hC hF hX)
          |(go_at_call 61;refine (C16.out.want es43).mono ?_;rintro e w17 ⟨⟨v17,rfl⟩,hC,hF⟩;have C17:Hid _:=hC;have K_17:Hid _:=C16.out.kids hF K_16.out;clear hC hF)
          |(at_builtin;refine wpList_kids rfl _ _ rfl C15.out rfl rfl K_15.out (by simp) Y_15.out (by have:=Hqs42.out;have:=C15.out.le;simp;omega) ?_;intro a16 c16 w16 Q16 hK hC hM;have C16:Hid _:=hC;have K_16:Hid _:=hK;clear hC hK hM)
          |(go_at_call 30;refine (C14.out.callK HDs42.out).mono ?_;rintro e w15 ⟨a15,c15,rfl,hX,hC,hF⟩;have C15:Hid _:=hC;have K_15:Hid _:=C14.out.kids hF K_14.out;have Y_15:Hid _:=hX;clear hC hF hX)
          |(go_at_call 55;obtain ⟨Ql13,hCl,hKl,hMl⟩:=C13.out.lit (kr_one X_13.out) rfl (by simp);have CL13:Hid _:=hCl;have K_L13:Hid _:=hKl;clear hCl hKl hMl;refine (CL13.out.is (bool_no h4)).mono ?_;rintro e w14 ⟨rfl,hC,hF⟩;have C14:Hid _:=hC;have K_14:Hid _:=CL13.out.kids hF K_L13.out;clear hC hF)
          |(go_at_call 28;refine (C12.out.got h3 es41).mono ?_;rintro e w13 ⟨rfl,hC,hF⟩;have C13:Hid _:=hC;have X_13:Hid _:=C12.out.fn hF X_12.out;clear hC hF)
          |(go_at_call 28;refine (C11.out.got (bool_no h2) (got_no h2)).mono ?_;rintro e w12 ⟨rfl,hC,hF⟩;have C12:Hid _:=hC;have X_12:Hid _:=C11.out.fn hF X_11.out;clear hC hF)
          |(go_at_call 28;refine (C10.out.got (bool_no h1) (got_no h1)).mono ?_;rintro e w11 ⟨rfl,hC,hF⟩;have C11:Hid _:=hC;have X_11:Hid _:=C10.out.fn hF X_10.out;clear hC hF))
         go_roundw
         case rel=>exact ⟨m,99,tk.node (bare 18) ([l]++ls42),s43,_,_,_,rfl,rfl,N_18,C18,HN.out.1⟩
         case measure =>
          have:=C18.out.ms
          have:=C18.out.le
          have:=HN.out.2
          have:=ms_lt (T:=E.T) (s:=q) (s':=s43) (by omega) (by omega)
          omega
       ·rw [if_neg h3] at hpz
        injection hpz with e1 e2
        injection e2 with e2 e3
        injection e1 with e1 _e4
        subst e1 e2 e3
        have i1:q.bad<0:=by omega
        clear hnd H3 nn htot
        go_wp2_with (first
         |(go_at_call 28;refine (C12.out.got (bool_no h3) (got_no h3)).mono ?_;rintro e w13 ⟨rfl,hC,hF⟩;have C13:Hid _:=hC;have X_13:Hid _:=C12.out.fn hF X_12.out;clear hC hF)
         |(go_at_call 28;refine (C11.out.got (bool_no h2) (got_no h2)).mono ?_;rintro e w12 ⟨rfl,hC,hF⟩;have C12:Hid _:=hC;have X_12:Hid _:=C11.out.fn hF X_11.out;clear hC hF)
         |(go_at_call 28;refine (C10.out.got (bool_no h1) (got_no h1)).mono ?_;rintro e w11 ⟨rfl,hC,hF⟩;have C11:Hid _:=hC;have X_11:Hid _:=C10.out.fn hF X_10.out;clear hC hF))
        go_returns
        exact C13.out.doneB X_13.out rfl
 ·skip
  obtain ⟨s1,es1⟩:∃x,nameS E.zs E.T s=x:=⟨_,rfl⟩
  obtain ⟨ts1,ets1⟩:∃x,nameT E.zs E.T s=x:=⟨_,rfl⟩
  have gs1:(s1.at_=s.at_+1∧s.at_<E.T.length∧s.bad<0∧s1.bad=s.bad)∨(s1.at_=s.at_∧0≤s1.bad):=by rw [← es1];exact name_f _ _ _
  have nY:need E.T 5 s1≤f:=(nd 5 1 2 rfl rfl (by omega))
  obtain ⟨Y,hY⟩:∃Y,pz E.zs E.T f 5 116 [[Nd.mk 16 0 [] [ts1] 0]] s1=Y:=⟨_,rfl⟩
  obtain ⟨l9,h9⟩:=suf_one (zs:=E.zs) (T:=E.T) f 116 ([Nd.mk 16 0 [] [ts1] 0]) s1 nY
  rw [hY] at h9
  obtain ⟨ys,cy,sy⟩:=Y
  dsimp only at h9
  subst h9
  refine ⟨l9,cy,sy,rs_of (by decide) hn0 (by rw [pz_4];unfold pB4;dsimp only;simp only [if_neg h1,es1,ets1,hY]) (by decide),fun w g hP=>?_⟩
  have C0:Hid (Cur E w g no w s):=Cur.start ok hP
  have HY:Hid (pz E.zs E.T f 5 116 [[Nd.mk 16 0 [] [ts1] 0]] s1=([l9],cy,sy)∧need E.T 5 s1≤f∧tot [[Nd.mk 16 0 [] [ts1] 0]]≤20*s1.at_+10):=⟨hY,nY,by rw [tot_one];omega⟩
  have HA:Hid (∀m,m≤f→Al E m):=AA
  have HM:E.T.length≤6000:=ok.many
  clear hP hn hn0 AA A hY nY gs1
  unfold ag1
  go_enter Tryz.func93,Tryz.ntmps93
  go_wp2_with (first
   |(go_at_call 58;refine (C1.out.name ets1 es1).mono ?_;rintro e w2 ⟨a2,c2,rfl,hX,hC,hF⟩;have C2:Hid _:=hC;have V_2:Hid _:=hX;clear hC hF hX)
   |(go_at_call 28;refine (C0.out.got (bool_no h1) (got_no h1)).mono ?_;rintro e w1 ⟨rfl,hC,hF⟩;have C1:Hid _:=hC;clear hC hF))
  have CA:Hid (Cur E w g no ((w2.alloc (.cells #[.slice a2 ts1.length c2] 22)).alloc (.cells #[.int .i64 16,.int .i64 0,.slice none 0 0,.slice (some ⟨w2.heap.size,0,none⟩) 1 1,.int .i64 0] 61)) s1):=(C2.out.bel (((Below.refl _ _).alloc (Nat.le_refl _) _).alloc (by simp) _)).1
  have XA:Hid (FN (hd w no) ((w2.alloc (.cells #[.slice a2 ts1.length c2] 22)).alloc (.cells #[.int .i64 16,.int .i64 0,.slice none 0 0,.slice (some ⟨w2.heap.size,0,none⟩) 1 1,.int .i64 0] 61)) (.slice (some ⟨w2.heap.size+1,0,none⟩) 1 1) [Nd.mk 16 0 [] [ts1] 0]):=fn_name (fun b hb=>C2.out.new hb) V_2.out
  go_loopw [4,5] (fun v u wr=>∃(m:Nat) (n:Int) (l:List Nd) (q:Ps) (Q:Nat→Bool) (a:Option Addr) (c:Nat),v=.slice a l.length c∧u=.int .u8 n∧Hid (FN (hd w Q) wr (.slice a l.length c) l)∧Hid (Cur E w g Q wr q)∧Hid (m≤f∧pz E.zs E.T m 5 n [l] q=([l9],cy,sy)∧need E.T 5 q≤m∧tot [l]≤20*q.at_+10)) (fun _ _ wr=>msW E.T g wr)
  case atStart=>exact ⟨f,116,[Nd.mk 16 0 [] [ts1] 0],s1,no,_,_,rfl,rfl,XA,CA,⟨Nat.le_refl _,HY.out.1,HY.out.2.1,HY.out.2.2⟩⟩
  case round =>
   obtain ⟨m,n,l,q,Q,a,c,rfl,rfl,X_10,C10,H3⟩:=hrel
   obtain ⟨hm,hpz,hnd,htot⟩:=H3.out
   have hms:=C10.out.ms
   have hq6:=C10.out.le
   have d3:=C10.out.c3
   cases m with
   |zero=>have:=need_pos E.T 5 q (by decide) (by decide);omega
   |succ m =>
    rw [pz_5] at hpz
    unfold pB5 at hpz
    dsimp only at hpz
    have nn:(0≤q.bad∧1≤m+1)∨(q.bad<0∧20*(E.T.length-q.at_)+2≤m+1):=by
     rcases need_or E.T 5 q with ⟨a,b⟩|⟨a,b⟩
     ·exact .inl ⟨a,by rw [b] at hnd;exact hnd⟩
     ·exact .inr ⟨a,by rw [b] at hnd;exact hnd⟩
    by_cases hb:0≤q.bad
    ·rw [if_pos hb] at hpz
     injection hpz with e1 e2
     injection e2 with e2 e3
     injection e1 with e1 _e4
     subst e1 e2 e3
     have i1:¬q.bad<0:=by omega
     clear hnd H3 nn htot
     go_wp2
     go_returns
     exact C10.out.doneB X_10.out rfl
    ·rw [if_neg hb] at hpz
     by_cases h1:isP E.zs E.T q {data:=#[46]}=true
     ·rw [if_pos h1] at hpz
      obtain ⟨s41,es41⟩:∃x,got E.zs E.T q {data:=#[46]}=x:=⟨_,rfl⟩
      have gs41:s41.at_=q.at_+1∧s41.bad=q.bad:=by rw [← es41];exact got_yes h1
      have bs41:=is_bad h1
      obtain ⟨s42,es42⟩:∃x,nameS E.zs E.T s41=x:=⟨_,rfl⟩
      obtain ⟨ts42,ets42⟩:∃x,nameT E.zs E.T s41=x:=⟨_,rfl⟩
      have gs42:(s42.at_=s41.at_+1∧s41.at_<E.T.length∧s41.bad<0∧s42.bad=s41.bad)∨(s42.at_=s41.at_∧0≤s42.bad):=by rw [← es42];exact name_f _ _ _
      simp only [es41,es42,ets42] at hpz
      have HN:Hid ((m≤f∧pz E.zs E.T m 5 116 [tk.node (bare 17) [l,[Nd.mk 15 0 ts42 [] 0]]] s42=([l9],cy,sy)∧need E.T 5 s42≤m∧tot [tk.node (bare 17) [l,[Nd.mk 15 0 ts42 [] 0]]]≤20*s42.at_+10)∧q.at_<s42.at_):=⟨⟨by omega,hpz,(nd 5 1 2 rfl rfl (by omega)),by rw [tot_node,show [l,[Nd.mk 15 0 ts42 [] 0]]=[l]++[[Nd.mk 15 0 ts42 [] 0]] from rfl,tot_app,tot_one];omega⟩,by omega⟩
      have HT:Hid (tot [l]≤20*q.at_+10):=htot
      have i1:q.bad<0:=by omega
      clear hpz hnd H3 nn htot gs41 bs41 gs42
      go_wp2_with (first
       |(go_at_call 31;refine (CA.out.nodeB (by simp) (nd:=bare 17) (kr_two XA.out KA.out) rfl (rdV_nil _) (rdVV_nil _) (by have h1:=HT.out;rw [show [l,[Nd.mk 15 0 ts42 [] 0]]=[l]++[[Nd.mk 15 0 ts42 [] 0]] from rfl,tot_app,tot_one];omega) (by simp)).mono ?_;rintro e w13 ⟨a13,c13,rfl,hX,hC,hF⟩;have C13:Hid _:=hC;have N_13:Hid _:=hX;clear hC hF hX)
       |(go_at_call 58;refine (C11.out.name ets42 es42).mono ?_;rintro e w12 ⟨a12,c12,rfl,hX,hC,hF⟩;have C12:Hid _:=hC;have X_12:Hid _:=C11.out.fn hF X_11.out;have V_12:Hid _:=hX;clear hC hF hX;obtain ⟨hCA,hFA⟩:=C12.out.bel (bel_alloc _ (.cells #[.int .i64 15,.int .i64 0,.slice a12 ts42.length c12,.slice none 0 0,.int .i64 0] 61));have CA:Hid (Cur E w g Q (w12.alloc (.cells #[.int .i64 15,.int .i64 0,.slice a12 ts42.length c12,.slice none 0 0,.int .i64 0] 61)) s42):=hCA;have XA:Hid (FN (hd w Q) (w12.alloc (.cells #[.int .i64 15,.int .i64 0,.slice a12 ts42.length c12,.slice none 0 0,.int .i64 0] 61)) (.slice a l.length c) l):=C12.out.fn hFA X_12.out;have KA:Hid (FN (hd w Q) (w12.alloc (.cells #[.int .i64 15,.int .i64 0,.slice a12 ts42.length c12,.slice none 0 0,.int .i64 0] 61)) (.slice (some ⟨w12.heap.size,0,none⟩) 1 1) [Nd.mk 15 0 ts42 [] 0]):=fn_one (C12.out.new (Nat.le_refl _)) V_12.out (rdVV_nil _);clear hCA hFA)
       |(go_at_call 28;refine (C10.out.got h1 es41).mono ?_;rintro e w11 ⟨rfl,hC,hF⟩;have C11:Hid _:=hC;have X_11:Hid _:=C10.out.fn hF X_10.out;clear hC hF))
      go_roundw
      case rel=>exact ⟨m,116,tk.node (bare 17) [l,[Nd.mk 15 0 ts42 [] 0]],s42,_,_,_,rfl,rfl,N_13,C13,HN.out.1⟩
      case measure =>
       have:=C13.out.ms
       have:=C13.out.le
       have:=HN.out.2
       have:=ms_lt (T:=E.T) (s:=q) (s':=s42) (by omega) (by omega)
       omega
     ·rw [if_neg h1] at hpz
      by_cases h2:isP E.zs E.T q {data:=#[91]}=true
      ·rw [if_pos h2] at hpz
       obtain ⟨s41,es41⟩:∃x,got E.zs E.T q {data:=#[91]}=x:=⟨_,rfl⟩
       have gs41:s41.at_=q.at_+1∧s41.bad=q.bad:=by rw [← es41];exact got_yes h2
       have bs41:=is_bad h2
       obtain ⟨ls42,cs42,s42,Rs42,Ds42⟩:=(HA.out m (by omega)).bin 1 s41 (by omega) (by omega) (nd 0 5 6 rfl rfl (by omega))
       have gs42:s41.at_≤s42.at_∧(0≤s41.bad→0≤s42.bad):=⟨Rs42.2.1,Rs42.2.2.1⟩
       obtain ⟨s43,es43⟩:∃x,want E.zs E.T s42 {data:=#[93]}=x:=⟨_,rfl⟩
       have gs43:(s43.at_=s42.at_+1∧s42.at_<E.T.length∧s42.bad<0∧s43.bad=s42.bad)∨(s43.at_=s42.at_∧0≤s43.bad):=by rw [← es43];exact want_f _ _ _ _
       simp only [es41,Rs42.1,es43] at hpz
       have t2:=Rs42.2.2.2
       have HN:Hid ((m≤f∧pz E.zs E.T m 5 116 [tk.node (bare 17) [l,ls42]] s43=([l9],cy,sy)∧need E.T 5 s43≤m∧tot [tk.node (bare 17) [l,ls42]]≤20*s43.at_+10)∧q.at_<s43.at_):=⟨⟨by omega,hpz,(nd 5 1 2 rfl rfl (by omega)),by rw [tot_node,show [l,ls42]=[l]++[ls42] from rfl,tot_app];omega⟩,by omega⟩
       have HT:Hid (tot [l]≤20*q.at_+10):=htot
       have HRs42:Hid _:=Rs42
       have HDs42:Hid _:=Ds42
       have i1:q.bad<0:=by omega
       clear hpz hnd H3 nn htot Rs42 Ds42 gs41 bs41 gs42 gs43 t2
       go_wp2_with (first
        |(go_at_call 31;refine (C14.out.nodeL (nd:=bare 17) (kr_two X_14.out Y_14.out) rfl (rdV_nil _) (rdVV_nil _) (by have h1:=HT.out;have h2:=tot_le HRs42.out C13.out;rw [show [l,ls42]=[l]++[ls42] from rfl,tot_app];omega) (by simp)).mono ?_;rintro e w15 ⟨a15,c15,rfl,hX,hC,hF⟩;have C15:Hid _:=hC;have N_15:Hid _:=hX;clear hC hF hX)
        |(go_at_call 61;refine (C13.out.want es43).mono ?_;rintro e w14 ⟨⟨v14,rfl⟩,hC,hF⟩;have C14:Hid _:=hC;have X_14:Hid _:=C13.out.fn hF X_13.out;have Y_14:Hid _:=C13.out.fn hF Y_13.out;clear hC hF)
        |(go_at_call 57;refine (C12.out.call HDs42.out).mono ?_;rintro e w13 ⟨a13,c13,rfl,hX,hC,hF⟩;have C13:Hid _:=hC;have X_13:Hid _:=C12.out.fn hF X_12.out;have Y_13:Hid _:=hX;clear hC hF hX)
        |(go_at_call 28;refine (C11.out.got h2 es41).mono ?_;rintro e w12 ⟨rfl,hC,hF⟩;have C12:Hid _:=hC;have X_12:Hid _:=C11.out.fn hF X_11.out;clear hC hF)
        |(go_at_call 28;refine (C10.out.got (bool_no h1) (got_no h1)).mono ?_;rintro e w11 ⟨rfl,hC,hF⟩;have C11:Hid _:=hC;have X_11:Hid _:=C10.out.fn hF X_10.out;clear hC hF))
       go_roundw
       case rel=>exact ⟨m,116,tk.node (bare 17) [l,ls42],s43,_,_,_,rfl,rfl,N_15,C15,HN.out.1⟩
       case measure =>
        have:=C15.out.ms
        have:=C15.out.le
        have:=HN.out.2
        have:=ms_lt (T:=E.T) (s:=q) (s':=s43) (by omega) (by omega)
        omega
      ·rw [if_neg h2] at hpz
       by_cases h3:isP E.zs E.T q {data:=#[40]}=true
       ·rw [if_pos h3] at hpz
        obtain ⟨s41,es41⟩:∃x,got E.zs E.T q {data:=#[40]}=x:=⟨_,rfl⟩
        have gs41:s41.at_=q.at_+1∧s41.bad=q.bad:=by rw [← es41];exact got_yes h3
        have bs41:=is_bad h3
        simp only [es41] at hpz
        by_cases h4:isP E.zs E.T s41 {data:=#[41]}=true
        ·simp only [if_pos h4] at hpz
         obtain ⟨s42,es42⟩:∃x,want E.zs E.T s41 {data:=#[41]}=x:=⟨_,rfl⟩
         have gs42:(s42.at_=s41.at_+1∧s41.at_<E.T.length∧s41.bad<0∧s42.bad=s41.bad)∨(s42.at_=s41.at_∧0≤s42.bad):=by rw [← es42];exact want_f _ _ _ _
         simp only [es42] at hpz
         have HN:Hid ((m≤f∧pz E.zs E.T m 5 99 [tk.node (bare 18) [l]] s42=([l9],cy,sy)∧need E.T 5 s42≤m∧tot [tk.node (bare 18) [l]]≤20*s42.at_+10)∧q.at_<s42.at_):=⟨⟨by omega,hpz,(nd 5 1 2 rfl rfl (by omega)),by rw [tot_node];omega⟩,by omega⟩
         have HT:Hid (tot [l]≤20*q.at_+10):=htot
         have i1:q.bad<0:=by omega
         clear hpz hnd H3 nn htot gs41 bs41 gs42
         go_wp2_with (first
          |(go_at_call 31;refine (C15.out.nodeK (n:=bare 18) K_15.out (rdV_nil _) (rdVV_nil _) (by have h1:=HT.out;omega) (by simp)).mono ?_;rintro e w16 ⟨a16,c16,rfl,hX,hC,hF⟩;have C16:Hid _:=hC;have N_16:Hid _:=hX;clear hC hF hX)
          |(go_at_call 61;refine (C14.out.want es42).mono ?_;rintro e w15 ⟨⟨v15,rfl⟩,hC,hF⟩;have C15:Hid _:=hC;have K_15:Hid _:=C14.out.kids hF K_14.out;clear hC hF)
          |(go_at_call 55;obtain ⟨Ql13,hCl,hKl,hMl⟩:=C13.out.lit (kr_one X_13.out) rfl (by simp);have CL13:Hid _:=hCl;have K_L13:Hid _:=hKl;clear hCl hKl hMl;refine (CL13.out.is h4).mono ?_;rintro e w14 ⟨rfl,hC,hF⟩;have C14:Hid _:=hC;have K_14:Hid _:=CL13.out.kids hF K_L13.out;clear hC hF)
          |(go_at_call 28;refine (C12.out.got h3 es41).mono ?_;rintro e w13 ⟨rfl,hC,hF⟩;have C13:Hid _:=hC;have X_13:Hid _:=C12.out.fn hF X_12.out;clear hC hF)
          |(go_at_call 28;refine (C11.out.got (bool_no h2) (got_no h2)).mono ?_;rintro e w12 ⟨rfl,hC,hF⟩;have C12:Hid _:=hC;have X_12:Hid _:=C11.out.fn hF X_11.out;clear hC hF)
          |(go_at_call 28;refine (C10.out.got (bool_no h1) (got_no h1)).mono ?_;rintro e w11 ⟨rfl,hC,hF⟩;have C11:Hid _:=hC;have X_11:Hid _:=C10.out.fn hF X_10.out;clear hC hF))
         go_roundw
         case rel=>exact ⟨m,99,tk.node (bare 18) [l],s42,_,_,_,rfl,rfl,N_16,C16,HN.out.1⟩
         case measure =>
          have:=C16.out.ms
          have:=C16.out.le
          have:=HN.out.2
          have:=ms_lt (T:=E.T) (s:=q) (s':=s42) (by omega) (by omega)
          omega
        ·simp only [if_neg h4] at hpz
         obtain ⟨ls42,cs42,s42,Rs42,qs42,Ds42⟩:=(HA.out m (by omega)).exs s41 (nd 6 6 7 rfl rfl (by omega))
         have gs42:s41.at_≤s42.at_∧(0≤s41.bad→0≤s42.bad):=⟨Rs42.2.1,Rs42.2.2.1⟩
         obtain ⟨s43,es43⟩:∃x,want E.zs E.T s42 {data:=#[41]}=x:=⟨_,rfl⟩
         have gs43:(s43.at_=s42.at_+1∧s42.at_<E.T.length∧s42.bad<0∧s43.bad=s42.bad)∨(s43.at_=s42.at_∧0≤s43.bad):=by rw [← es43];exact want_f _ _ _ _
         simp only [Rs42.1,es43] at hpz
         have t2:=Rs42.2.2.2
         have HN:Hid ((m≤f∧pz E.zs E.T m 5 99 [tk.node (bare 18) ([l]++ls42)] s43=([l9],cy,sy)∧need E.T 5 s43≤m∧tot [tk.node (bare 18) ([l]++ls42)]≤20*s43.at_+10)∧q.at_<s43.at_):=⟨⟨by omega,hpz,(nd 5 1 2 rfl rfl (by omega)),by rw [tot_node,tot_app];omega⟩,by omega⟩
         have HT:Hid (tot [l]≤20*q.at_+10):=htot
         have HRs42:Hid _:=Rs42
         have HDs42:Hid _:=Ds42
         have Hqs42:Hid _:=qs42
         have i1:q.bad<0:=by omega
         clear hpz hnd H3 nn htot Rs42 Ds42 qs42 gs41 bs41 gs42 gs43 t2
         go_wp2_with (first
          |(go_at_call 31;refine (C17.out.nodeK (n:=bare 18) K_17.out (rdV_nil _) (rdVV_nil _) (by have h1:=HT.out;have h2:=tot_le HRs42.out C15.out;rw [tot_app];omega) (by have:=Hqs42.out;have:=C15.out.le;simp;omega)).mono ?_;rintro e w18 ⟨a18,c18,rfl,hX,hC,hF⟩;have C18:Hid _:=hC;have N_18:Hid _:=hX;clear hC hF hX)
          |(go_at_call 61;refine (C16.out.want es43).mono ?_;rintro e w17 ⟨⟨v17,rfl⟩,hC,hF⟩;have C17:Hid _:=hC;have K_17:Hid _:=C16.out.kids hF K_16.out;clear hC hF)
          |(at_builtin;refine wpList_kids rfl _ _ rfl C15.out rfl rfl K_15.out (by simp) Y_15.out (by have:=Hqs42.out;have:=C15.out.le;simp;omega) ?_;intro a16 c16 w16 Q16 hK hC hM;have C16:Hid _:=hC;have K_16:Hid _:=hK;clear hC hK hM)
          |(go_at_call 30;refine (C14.out.callK HDs42.out).mono ?_;rintro e w15 ⟨a15,c15,rfl,hX,hC,hF⟩;have C15:Hid _:=hC;have K_15:Hid _:=C14.out.kids hF K_14.out;have Y_15:Hid _:=hX;clear hC hF hX)
          |(go_at_call 55;obtain ⟨Ql13,hCl,hKl,hMl⟩:=C13.out.lit (kr_one X_13.out) rfl (by simp);have CL13:Hid _:=hCl;have K_L13:Hid _:=hKl;clear hCl hKl hMl;refine (CL13.out.is (bool_no h4)).mono ?_;rintro e w14 ⟨rfl,hC,hF⟩;have C14:Hid _:=hC;have K_14:Hid _:=CL13.out.kids hF K_L13.out;clear hC hF)
          |(go_at_call 28;refine (C12.out.got h3 es41).mono ?_;rintro e w13 ⟨rfl,hC,hF⟩;have C13:Hid _:=hC;have X_13:Hid _:=C12.out.fn hF X_12.out;clear hC hF)
          |(go_at_call 28;refine (C11.out.got (bool_no h2) (got_no h2)).mono ?_;rintro e w12 ⟨rfl,hC,hF⟩;have C12:Hid _:=hC;have X_12:Hid _:=C11.out.fn hF X_11.out;clear hC hF)
          |(go_at_call 28;refine (C10.out.got (bool_no h1) (got_no h1)).mono ?_;rintro e w11 ⟨rfl,hC,hF⟩;have C11:Hid _:=hC;have X_11:Hid _:=C10.out.fn hF X_10.out;clear hC hF))
         go_roundw
         case rel=>exact ⟨m,99,tk.node (bare 18) ([l]++ls42),s43,_,_,_,rfl,rfl,N_18,C18,HN.out.1⟩
         case measure =>
          have:=C18.out.ms
          have:=C18.out.le
          have:=HN.out.2
          have:=ms_lt (T:=E.T) (s:=q) (s':=s43) (by omega) (by omega)
          omega
       ·rw [if_neg h3] at hpz
        injection hpz with e1 e2
        injection e2 with e2 e3
        injection e1 with e1 _e4
        subst e1 e2 e3
        have i1:q.bad<0:=by omega
        clear hnd H3 nn htot
        go_wp2_with (first
         |(go_at_call 28;refine (C12.out.got (bool_no h3) (got_no h3)).mono ?_;rintro e w13 ⟨rfl,hC,hF⟩;have C13:Hid _:=hC;have X_13:Hid _:=C12.out.fn hF X_12.out;clear hC hF)
         |(go_at_call 28;refine (C11.out.got (bool_no h2) (got_no h2)).mono ?_;rintro e w12 ⟨rfl,hC,hF⟩;have C12:Hid _:=hC;have X_12:Hid _:=C11.out.fn hF X_11.out;clear hC hF)
         |(go_at_call 28;refine (C10.out.got (bool_no h1) (got_no h1)).mono ?_;rintro e w11 ⟨rfl,hC,hF⟩;have C11:Hid _:=hC;have X_11:Hid _:=C10.out.fn hF X_10.out;clear hC hF))
        go_returns
        exact C13.out.doneB X_13.out rfl
end ps
end Go.Proofs.YtkmiagkehcflnaaGreatDoor
