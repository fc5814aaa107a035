import Derived.Deep.RegionWith
import Derived.Deep.DeepCutAuto
import Derived.Test.YtkmiagkehcflnaaGreatDoorMPsBlk
import Derived.Test.YtkmiagkehcflnaaGreatDoorMPsSuf
set_option linter.unusedVariables false
set_option linter.unusedSimpArgs false
set_option maxRecDepth 100000
set_option maxHeartbeats 8000000
namespace Go.Proofs.YtkmiagkehcflnaaGreatDoor
namespace ps
open Go.RowKit bts nod lex tk
theorem Cur.c0 {E:En} {Q:Nat→Bool} {w W:World} {g:Nat} {s:Ps} (C:Cur E w g Q W s):W.cell? ⟨g,0,none⟩=some (.slice E.sv E.zs.length E.sc):=C.pp.2.2.1.at (j:=0) (by omega)
theorem Cur.c1 {E:En} {Q:Nat→Bool} {w W:World} {g:Nat} {s:Ps} (C:Cur E w g Q W s):W.cell? ⟨g,1,none⟩=some (.slice E.tv E.T.length E.tc):=C.pp.2.2.1.at (j:=1) (by omega)
theorem Cur.done2 {E:En} {Q:Nat→Bool} {w W:World} {g:Nat} {s:Ps} {l:List Nd} (C:Cur E w g Q W s) {a:Option Addr} {n m c:Nat} (h:FN (hd w Q) W (.slice a m c) l) (hm:m=l.length) (hn:n=m):∃a' c',Ending.returned (.slice a n c)=.returned (.slice a' l.length c')∧FN (tk.lt w.heap.size) W (.slice a' l.length c') l∧E.pp W g s∧Fq g w W:=by
 subst hn
 exact C.done h hm
theorem wpList_kidB {E:En} {Q:Nat→Bool} {w W W':World} {g b:Nat} {s:Ps} {l:List Nd} {ks:List (List Nd)} {ops:Array Oper} {rest:List Oper} {o:Oper} {a:Act} {K:Exit→Act→World→Prop} (hgd:o.guard=none) (sv xv:Operand)
  (ho:o.op=.call {callee:=.builtin .append,args:=#[sv,xv],argTypes:=#[69,69]})
  (C:Cur E w g Q W s) (hb:b=W.heap.size) {ao:Option Addr} {n c:Nat} (u:Value) (hs:a.eval sv=.slice ao n c) (hxe:a.eval xv=.slice (some ⟨b,0,none⟩) 1 1) (hW:W'=W.alloc (.cells #[u] 23))
  (hK:Kids w Q W (.slice ao n c) ks) (hn:n=ks.length) (hx:FN (hd w Q) W u l) (hm:ks.length≤90000)
  (h:∀a' c' w' Q',Kids w Q' w' (.slice a' (n+1) c') (ks++[l])→Cur E w g Q' w' s→Mv w Q W Q' w'→wpList Tryz.prog ops K rest (a.put o.dst (.slice a' (n+1) c')) w'):wpList Tryz.prog ops K (o::rest) a W':=by
 subst hb
 exact wpList_kid hgd sv xv ho C u hs hxe hW hK hn hx hm h
theorem tab_next {E:En} (ok:E.ok) {f:Nat} (AA:∀m,m≤f→Al E m) (s:Ps) (hn0:need E.T 9 s≤f+1):∃l c s',Rs E (f+1) 9 0 s [l] c s'∧Nods E 123 ag1 s l s':=by
 have hn:(0≤s.bad∧2≤f+1)∨(s.bad<0∧20*(E.T.length-s.at_)+3≤f+1):=nx hn0 rfl rfl
 obtain ⟨s1,es1⟩:∃x,want E.zs E.T s {data:=#[123]}=x:=⟨_,rfl⟩
 have gs1:(s1.at_=s.at_+1∧s.at_<E.T.length∧s.bad<0∧s1.bad=s.bad)∨(s1.at_=s.at_∧0≤s1.bad):=by rw [← es1];exact want_f _ _ _ _
 have nY:need E.T 10 s1≤f:=(nd 10 1 7 rfl rfl (by omega))
 obtain ⟨Y,hY⟩:∃Y,pz E.zs E.T f 10 (0) ([]) s1=Y:=⟨_,rfl⟩
 have GY:=pz_gd E.zs E.T f 10 (0) ([]) s1 (by decide) nY
 rw [hY] at GY
 obtain ⟨ys,cy,sy⟩:=Y
 have gY:s1.at_≤sy.at_∧(0≤s1.bad→0≤sy.bad):=⟨GY.1,GY.2.1⟩
 clear GY
 obtain ⟨s9,es9⟩:∃x,want E.zs E.T sy {data:=#[125]}=x:=⟨_,rfl⟩
 refine ⟨tk.node (bare 20) ys,0,s9,rs_of (by decide) hn0 (by rw [pz_9];unfold pB9;dsimp only;simp only [es1,hY,es9]) (by decide),fun w g hP=>?_⟩
 have C0:Hid (Cur E w g no w s):=Cur.start ok hP
 have HY:Hid (pz E.zs E.T f 10 0 [] s1=(ys,cy,sy)∧need E.T 10 s1≤f):=⟨hY,nY⟩
 have HA:Hid (∀m,m≤f→Al E m):=AA
 have HM:E.T.length≤6000:=ok.many
 clear hP hn hn0 AA hY nY gY gs1
 unfold ag1
 go_enter Tryz.func123,Tryz.ntmps123
 go_wp2_with (first
  |(go_at_call 61;refine (C0.out.want es1).mono ?_;rintro e w1 ⟨⟨v1,rfl⟩,hC,hF⟩;have C1:Hid _:=hC;clear hC hF))
 go_loopw [3,4] (fun v u wr=>∃(m:Nat) (n:Int) (ks:List (List Nd)) (q:Ps) (Q:Nat→Bool) (a:Option Addr) (c:Nat),v=.slice a ks.length c∧u=.int .i64 n∧Hid (Kids w Q wr (.slice a ks.length c) ks)∧Hid (Cur E w g Q wr q)∧Hid (m≤f∧pz E.zs E.T m 10 n ks q=(ys,cy,sy)∧need E.T 10 q≤m∧tot ks≤20*q.at_+20∧ks.length≤2*q.at_+2∧0≤n∧n≤q.at_)) (fun _ _ wr=>msW E.T g wr)
 case atStart=>exact ⟨f,0,[],s1,no,none,0,rfl,rfl,kids_nil,C1,⟨Nat.le_refl _,HY.out.1,HY.out.2,by rw [tot_nil];omega,by simp,by omega,by omega⟩⟩
 case round =>
  obtain ⟨m,n,ks,q,Q,a,c,rfl,rfl,K_10,C10,H3⟩:=hrel
  obtain ⟨hm,hpz,hnd,htot,hkl,hn0,hnq⟩:=H3.out
  have hms:=C10.out.ms
  have hq6:=C10.out.le
  have d3:=C10.out.c3
  cases m with
  |zero=>have:=need_pos E.T 10 q (by decide) (by decide);omega
  |succ m =>
   rw [pz_10] at hpz
   unfold pB10 at hpz
   dsimp only at hpz
   have nn:(0≤q.bad∧1≤m+1)∨(q.bad<0∧20*(E.T.length-q.at_)+7≤m+1):=by
    rcases need_or E.T 10 q with ⟨a,b⟩|⟨a,b⟩
    ·exact .inl ⟨a,by rw [b] at hnd;exact hnd⟩
    ·exact .inr ⟨a,by rw [b] at hnd;exact hnd⟩
   have hl9:ks.length≤12002:=by omega
   have hn9:n≤6000:=by omega
   by_cases hb:0≤q.bad
   ·rw [if_pos (Or.inl hb)] at hpz
    have i1:¬q.bad<0:=by omega
    injection hpz with e1 e2
    injection e2 with e2 e3
    subst e1 e2 e3
    have HT:Hid (tot ks≤20*q.at_+20):=htot
    clear hnd H3 nn htot
    go_wp2_with (first
     |(go_at_call 31;refine (C11.out.nodeK (n:=bare 20) K_11.out (rdV_nil _) (rdVV_nil _) (by have h1:=HT.out;(try simp only [tot_app,tot_one]);omega) (by first|omega|(simp;omega)|(simp;done))).mono ?_;rintro e w12 ⟨a12,c12,rfl,hX,hC,hF⟩;have C12:Hid _:=hC;have N_12:Hid _:=hX;clear hC hF hX)
     |(go_at_call 61;refine (C10.out.want es9).mono ?_;rintro e w11 ⟨⟨v11,rfl⟩,hC,hF⟩;have C11:Hid _:=hC;have K_11:Hid _:=C10.out.kids hF K_10.out;clear hC hF))
    go_returns
    exact C12.out.done2 N_12.out rfl (by simp)
   ·by_cases h5:isP E.zs E.T q {data:=#[125]}=true
    ·rw [if_pos (Or.inr h5)] at hpz
     have i1:q.bad<0:=by omega
     injection hpz with e1 e2
     injection e2 with e2 e3
     subst e1 e2 e3
     have HT:Hid (tot ks≤20*q.at_+20):=htot
     clear hnd H3 nn htot
     go_wp2_with (first
      |(go_at_call 31;refine (C12.out.nodeK (n:=bare 20) K_12.out (rdV_nil _) (rdVV_nil _) (by have h1:=HT.out;(try simp only [tot_app,tot_one]);omega) (by first|omega|(simp;omega)|(simp;done))).mono ?_;rintro e w13 ⟨a13,c13,rfl,hX,hC,hF⟩;have C13:Hid _:=hC;have N_13:Hid _:=hX;clear hC hF hX)
      |(go_at_call 61;refine (C11.out.want es9).mono ?_;rintro e w12 ⟨⟨v12,rfl⟩,hC,hF⟩;have C12:Hid _:=hC;have K_12:Hid _:=C11.out.kids hF K_11.out;clear hC hF)
      |(go_at_call 55;refine (C10.out.is h5).mono ?_;rintro e w11 ⟨rfl,hC,hF⟩;have C11:Hid _:=hC;have K_11:Hid _:=C10.out.kids hF K_10.out;clear hC hF))
     go_returns
     exact C13.out.done2 N_13.out rfl (by simp)
    ·rw [if_neg (fun h=>h.elim hb h5)] at hpz
     have i1:q.bad<0:=by omega
     go_wp2_with (go_at_call 55;refine (C10.out.is (bool_no h5)).mono ?_;rintro e w11 ⟨rfl,hC,hF⟩;have C11:Hid _:=hC;have K_11:Hid _:=C10.out.kids hF K_10.out;clear hC hF)
     have HC:Hid (∀W,Below w11.heap.size w11 W→W.cell? ⟨g,1,none⟩=some (.slice E.tv E.T.length E.tc)∧W.cell? ⟨g,2,none⟩=some (.int .i64 (q.at_:Int))):=fun W hW=>⟨cellB C11.out.c1 hW,cellB C11.out.c2 hW⟩
     obtain ⟨kd,hkd⟩:∃k,kindP E.T q=k:=⟨_,rfl⟩
     have KD:Hid (∀W,Below w11.heap.size w11 W→Calls Tryz.prog 56 #[.pointer (some ⟨g,0,none⟩)] W fun e w'=>e=.returned (.int .i64 kd)∧Below w11.heap.size w11 w'):=fun W hW=>(l3kind_any C11.out.ok (Pp.keep C11.out.pp hW)).mono (by rintro e w' ⟨rfl,m,rfl⟩;exact ⟨by rw [hkd],tk.bel_drewN hW m⟩)
     go_cut [5] from 19 to 34 (fun v wx=>∃bb:Bool,v=.bool bb∧Hid (bb=(decide (kd=1)&&decide ((q.at_:Int)+1<(E.T.length:Int))))∧Hid (Below w11.heap.size w11 wx))
     case first =>
      by_cases h1:kd=1
      ·subst h1
       go_region_held3 (fun W=>W.cell? ⟨g,1,none⟩=some (.slice E.tv E.T.length E.tc)∧W.cell? ⟨g,2,none⟩=some (.int .i64 (q.at_:Int))) (exact HC.out _ (by repeat (first|exact Below.refl _ _|exact H12.out|refine Below.drew ?_|refine tk.bel_drewN ?_ _))) (first|(go_at_call 56;(with_reducible refine Calls.mono (KD.out _ (by repeat (first|exact Below.refl _ _|exact H12.out|refine Below.drew ?_|refine tk.bel_drewN ?_ _))) ?_);rintro e w12 ⟨rfl,hb⟩;have H12:Hid (Below w11.heap.size w11 w12):=hb;clear hb))
       have hw:IntKind.i64.wrap ((q.at_:Int)+1)=(q.at_:Int)+1:=by go_arith
       go_wp2_with fail
       go_meet
       case rel=>exact ⟨_,rfl,by show _=_;rw [hw];simp,(by repeat (first|exact Below.refl _ _|exact H12.out|refine Below.drew ?_|refine tk.bel_drewN ?_ _))⟩
      ·have e1:(kd==1)=false:=by simp;exact h1
       refine wp_region_noPanic ?_
       refine wp_region_held_drew (S:=(fun W=>W.cell? ⟨g,1,none⟩=some (.slice E.tv E.T.length E.tc)∧W.cell? ⟨g,2,none⟩=some (.int .i64 (q.at_:Int)))) (by kernel_rfl) ?_ (fun hHeld=>?_)
       (exact HC.out _ (by repeat (first|exact Below.refl _ _|exact H12.out|refine Below.drew ?_|refine tk.bel_drewN ?_ _)))
       refine wpAnyH_take (i:=0) (v:=?_) rfl (by kernel_rfl) (by kernel_rfl) (by kernel_rfl) (fun _ _ _ h=>h) (Or.inl ⟨by kernel_rfl,?_⟩) (by assumption) ?_
       rotate_left
       (intro W hSw;obtain ⟨g0,g1⟩:=hSw;go_simp;try with_reducible rfl)
       try simp only [Act.put,List.setIfInBounds_toArray]
       refine wpAnyH_ready (rs:=[1]) (by kernel_rfl) (by simp) ?_
       refine (AllReadyH.cons rfl (fun K hK=>?_) AllReadyH.nil)
       go_simp
       (go_at_call 56;(with_reducible refine Calls.mono (KD.out _ (by repeat (first|exact Below.refl _ _|exact H12.out|refine Below.drew ?_|refine tk.bel_drewN ?_ _))) ?_);rintro e w12 ⟨rfl,hb⟩;have H12:Hid (Below w11.heap.size w11 w12):=hb;clear hb)
       refine hK.out _ _ (HC.out _ H12.out) (fun hHeld2=>?_)
       clear hK K hHeld
       have hHeld:=hHeld2
       clear hHeld2
       try simp only [Act.put,List.setIfInBounds_toArray,List.set_cons_zero,List.set_cons_succ]
       refine wpAnyH_take (i:=2) (v:=?_) rfl (by kernel_rfl) (by kernel_rfl) (by kernel_rfl) (fun _ _ _ h=>h) (Or.inl ⟨by kernel_rfl,?_⟩) (by assumption) ?_
       rotate_left
       (intro W hSw;obtain ⟨g0,g1⟩:=hSw;go_simp;try with_reducible rfl)
       try simp only [Act.put,List.setIfInBounds_toArray]
       refine wpAnyH_take (i:=3) (v:=?_) rfl (by kernel_rfl) (by kernel_rfl) (by kernel_rfl) (fun _ _ _ h=>h) (Or.inl ⟨by kernel_rfl,?_⟩) (by assumption) ?_
       rotate_left
       (intro W hSw;obtain ⟨g0,g1⟩:=hSw;go_simp;try with_reducible rfl)
       try simp only [Act.put,List.setIfInBounds_toArray]
       refine wpAnyH_take (i:=4) (v:=_) rfl (by kernel_rfl) (by kernel_rfl) (by kernel_rfl) (fun _ _ _ h=>h) (Or.inr ⟨by kernel_rfl,rfl⟩) (by assumption) ?_
       try simp only [Act.put]
       refine wpAnyH_take (i:=5) (v:=_) rfl (by kernel_rfl) (by kernel_rfl) (by kernel_rfl) (fun _ _ _ h=>h) (Or.inr ⟨by kernel_rfl,rfl⟩) (by assumption) ?_
       try simp only [Act.put]
       refine wpAnyH_take (i:=6) (v:=_) rfl (by kernel_rfl) (by kernel_rfl) (by kernel_rfl) (fun _ _ _ h=>h) (Or.inr ⟨by kernel_rfl,rfl⟩) (by assumption) ?_
       try simp only [Act.put]
       refine wpAnyH_take (i:=7) (v:=_) rfl (by kernel_rfl) (by kernel_rfl) (by kernel_rfl) (fun _ _ _ h=>h) (Or.inr ⟨by kernel_rfl,rfl⟩) (by assumption) ?_
       try simp only [Act.put]
       refine wpAnyH_take (i:=8) (v:=_) rfl (by kernel_rfl) (by kernel_rfl) (by kernel_rfl) (fun _ _ _ h=>h) (Or.inr ⟨by kernel_rfl,rfl⟩) (by assumption) ?_
       try simp only [Act.put]
       refine wpAnyH_take (i:=9) (v:=_) rfl (by kernel_rfl) (by kernel_rfl) (by kernel_rfl) (fun _ _ _ h=>h) (Or.inr ⟨by kernel_rfl,rfl⟩) (by assumption) ?_
       try simp only [Act.put]
       refine wpAnyH_take (i:=10) (v:=_) rfl (by kernel_rfl) (by kernel_rfl) (by kernel_rfl) (fun _ _ _ h=>h) (Or.inr ⟨by kernel_rfl,rfl⟩) (by assumption) ?_
       try simp only [Act.put]
       refine wpAnyH_take (i:=11) (v:=_) rfl (by kernel_rfl) (by kernel_rfl) (by kernel_rfl) (fun _ _ _ h=>h) (Or.inr ⟨by kernel_rfl,rfl⟩) (by assumption) ?_
       try simp only [Act.put]
       refine wpAnyH_take (i:=12) (v:=_) rfl (by kernel_rfl) (by kernel_rfl) (by kernel_rfl) (fun _ _ _ h=>h) (Or.inr ⟨by kernel_rfl,rfl⟩) (by assumption) ?_
       try simp only [Act.put]
       refine wpAnyH_take (i:=13) (v:=_) rfl (by kernel_rfl) (by kernel_rfl) (by kernel_rfl) (fun _ _ _ h=>h) (Or.inr ⟨by kernel_rfl,rfl⟩) (by assumption) ?_
       try simp only [Act.put]
       refine wpAnyH_take (i:=14) (v:=_) rfl (by kernel_rfl) (by kernel_rfl) (by kernel_rfl) (fun _ _ _ h=>h) (Or.inr ⟨by kernel_rfl,rfl⟩) (by assumption) ?_
       try simp only [Act.put]
       refine wpAnyH_take (i:=15) (v:=?_) rfl (by kernel_rfl) (by kernel_rfl) (by kernel_rfl) (fun _ _ _ h=>h) (Or.inl ⟨by kernel_rfl,?_⟩) (by assumption) ?_
       rotate_left
       (intro W hSw;obtain ⟨g0,g1⟩:=hSw;go_simp;try with_reducible rfl)
       try simp only [Act.put,List.setIfInBounds_toArray]
       refine wpAnyH_ready (rs:=[16]) (by kernel_rfl) (by simp) ?_
       refine (AllReadyH.cons rfl (fun K hK=>?_) AllReadyH.nil)
       go_simp
       refine hK.out _ _ (HC.out _ H12.out) (fun hHeld2=>?_)
       clear hK K hHeld
       have hHeld:=hHeld2
       clear hHeld2
       try simp only [Act.put,List.setIfInBounds_toArray,List.set_cons_zero,List.set_cons_succ]
       refine wpAnyH_done (by kernel_rfl) ?_ _
       refine NoPanic.normal ?_
       go_wp2_with fail
       go_meet
       case rel=>exact ⟨false,rfl,by show _=_;simp [h1],H12⟩
     case rest =>
      obtain ⟨bb,rfl,HB5,B5⟩:=hcut
      go_upto_if 35 with fail
      go_cut [5] from 35 to 60 (fun v wx=>∃bb:Bool,v=.bool bb∧Hid (bb=named E.zs E.T q)∧Hid (Below w11.heap.size w11 wx))
      case first =>
       cases bb with
       |false =>
        go_wp2_with fail
        go_meet
        case rel=>exact ⟨false,rfl,by show _=_;have h1:=HB5.out;unfold named;rw [hkd];have h2:decide ((q.at_:Int)+1<(E.T.length:Int))=decide (q.at_+1<E.T.length):=decide_eq_decide.2 (by omega);rw [h2] at h1;rw [← h1];rfl,B5⟩
       |true =>
        have hlt:q.at_+1<E.T.length:=by have:=HB5.out;simp at this;omega
        have OK:=C11.out.ok
        have hBw:=C11.out.pp.1.trans (B5.out.mono C11.out.pp.1.size)
        have hNM:Hid (named E.zs E.T q=((strOfNums (textOf E.zs E.T (q.at_+1))).toList==({data:=#[61]}:ByteArray).toList)):=by
         show _=_
         have h1:=HB5.out
         simp only [Bool.true_eq,Bool.and_eq_true,decide_eq_true_eq] at h1
         unfold named
         rw [hkd,decide_eq_true h1.1,decide_eq_true hlt]
         rfl
        obtain ⟨gT,heT,t0,t1,t2⟩:=OK.toks.below hBw (q.at_+1) hlt
        have x1:wc.cell? ⟨g,1,none⟩=some (.slice (some ⟨gT,0,none⟩) E.T.length E.tc):=by rw [← heT];exact cellB C11.out.c1 B5.out
        have x2:wc.cell? ⟨g,2,none⟩=some (.int .i64 (q.at_:Int)):=cellB C11.out.c2 B5.out
        have hw:IntKind.i64.wrap ((q.at_:Int)+1)=((q.at_+1:Nat):Int):=by go_arith
        obtain ⟨k1,hk1⟩:∃k,q.at_+1=k:=⟨_,rfl⟩
        rw [hk1] at t0 t1 t2 hw hlt hNM
        have i1:(k1:Int)<(E.T.length:Int):=by omega
        have hf:=OK.fits k1 hlt
        obtain ⟨b,heS⟩:=OK.zero (by omega)
        have hsz:=OK.size
        have hrm:=OK.room
        have hmo:=OK.most
        have HS:Hid (Rd wc (some ⟨b,0,none⟩) E.zs):=by rw [← heS];exact OK.src.below hBw
        have x0:wc.cell? ⟨g,0,none⟩=some (.slice (some ⟨b,0,none⟩) E.zs.length E.sc):=by rw [← heS];exact cellB C11.out.c0 B5.out
        obtain ⟨t,ht⟩:∃t,t=strOfNums (textOf E.zs E.T k1):=⟨_,rfl⟩
        have HT:Hid (t=strOfNums (textOf E.zs E.T k1)):=ht
        rw [← ht] at hNM
        clear ht
        unfold textOf at HT
        generalize (E.T.getD k1 (0,0,0))=tok at t0 t1 t2 hf HT
        obtain ⟨k9,a9,m9⟩:=tok
        simp only at t0 t1 t2 hf HT
        obtain ⟨nz,hnz⟩:∃n,n=E.zs.length:=⟨_,rfl⟩
        have HNZ:Hid (nz=E.zs.length):=hnz
        rw [← hnz] at x0 hf hsz hrm
        obtain ⟨sc,hsc⟩:∃n,n=E.sc:=⟨_,rfl⟩
        rw [← hsc] at x0 hrm hmo
        have j2:(a9:Int)≤(a9:Int)+(m9:Int):=by omega
        have j3:(a9:Int)+(m9:Int)≤(sc:Int):=by omega
        have j4:¬sc=a9:=by omega
        have HV:Hid (∀W,Below wc.heap.size wc W→(convert 22 9 (.slice (some ⟨b,a9,none⟩) m9 (sc-a9))).run Tryz.prog W=.ok (.string t) W):=fun W hW=>by
         rw [HT.out]
         exact conv_part b a9 m9 (sc-a9) E.zs W (fun i hi=>by
          obtain ⟨b2,o2,e,hc⟩:=(HS.out.below hW) i hi
          simp only [Option.some.injEq,Addr.mk.injEq,and_true] at e
          obtain ⟨rfl,rfl⟩:=e
          rwa [Nat.zero_add] at hc) (by rw [← HNZ.out];omega)
        have HX:Hid (∀W,Below wc.heap.size wc W→W.cell? ⟨g,1,none⟩=some (.slice (some ⟨gT,0,none⟩) E.T.length E.tc)∧W.cell? ⟨g,2,none⟩=some (.int .i64 (q.at_:Int))∧W.cell? ⟨gT,k1*3,none⟩=some (.int .i64 k9)∧W.cell? ⟨gT,k1*3+1,none⟩=some (.int .i64 (a9:Int))∧W.cell? ⟨gT,k1*3+2,none⟩=some (.int .i64 (m9:Int))):=fun W hW=>⟨cellB x1 hW,cellB x2 hW,cellB t0 hW,cellB t1 hW,cellB t2 hW⟩
        have HX0:Hid (∀W,Below wc.heap.size wc W→W.cell? ⟨g,0,none⟩=some (.slice (some ⟨b,0,none⟩) nz sc)):=fun W hW=>cellB x0 hW
        clear x0 x1 x2 t0 t1 t2 OK hBw hnz hsc heT heS HB5
        go_wp2_with fail
        go_region_held3 (fun W=>W.cell? ⟨g,1,none⟩=some (.slice (some ⟨gT,0,none⟩) E.T.length E.tc)∧W.cell? ⟨g,2,none⟩=some (.int .i64 (q.at_:Int))∧W.cell? ⟨gT,k1*3,none⟩=some (.int .i64 k9)∧W.cell? ⟨gT,k1*3+1,none⟩=some (.int .i64 (a9:Int))∧W.cell? ⟨gT,k1*3+2,none⟩=some (.int .i64 (m9:Int))) (exact HX.out _ (by repeat (first|exact Below.refl _ _|refine Below.drew ?_|refine tk.bel_drewN ?_ _|exact bel_alloc _ _))) (fail)
        obtain ⟨W2,hW2⟩:∃W2,W2=(wc.alloc (.cells #[.int .i64 k9,.int .i64 (a9:Int),.int .i64 (m9:Int)] 68)).drew:=⟨_,rfl⟩
        have B2:Hid (Below wc.heap.size wc W2):=by rw [hW2];exact Below.drew (bel_alloc _ _)
        have y1:W2.cell? ⟨wc.heap.size,1,none⟩=some (.int .i64 (a9:Int)):=by rw [hW2];exact World.cell?_alloc_new _ _ _ _
        have y2:W2.cell? ⟨wc.heap.size,2,none⟩=some (.int .i64 (m9:Int)):=by rw [hW2];exact World.cell?_alloc_new _ _ _ _
        have y0:=HX0.out W2 B2.out
        have kv:∀k,(convert 22 9 (.slice (some ⟨b,a9,none⟩) m9 (sc-a9))).run Tryz.prog (W2.drewN k)=.ok (.string t) (W2.drewN k):=fun k=>HV.out _ (tk.bel_drewN B2.out k)
        rw [← hW2]
        clear hW2
        go_wp2_with fail
        go_quiet (fail)
        go_wp2_with fail
        go_meet
        case rel=>exact ⟨_,rfl,by show _=_;rw [hNM.out];first|rfl|decide|simp,B5.out.trans ((tk.bel_drewN B2.out _).mono B5.out.size)⟩
      case rest =>
       obtain ⟨bb,rfl,HB6,B6⟩:=hcut
       have hbb:=HB6.out
       obtain ⟨hC12,hF12⟩:=C11.out.bel B6.out
       have C12:Hid _:=hC12
       have K_12:Hid _:=C11.out.kids hF12 K_11.out
       clear hC12 hF12 HB5 B5 HC KD
       by_cases hnm:named E.zs E.T q=true
       ·simp only [if_pos hnm] at hpz
        rw [hnm] at hbb
        subst hbb
        obtain ⟨s41,es41⟩:∃x,nameS E.zs E.T q=x:=⟨_,rfl⟩
        obtain ⟨ts41,ets41⟩:∃x,nameT E.zs E.T q=x:=⟨_,rfl⟩
        have gs41:(s41.at_=q.at_+1∧q.at_<E.T.length∧q.bad<0∧s41.bad=q.bad)∨(s41.at_=q.at_∧0≤s41.bad):=by rw [← es41];exact name_f _ _ _
        obtain ⟨s42,es42⟩:∃x,want E.zs E.T s41 {data:=#[61]}=x:=⟨_,rfl⟩
        have gs42:(s42.at_=s41.at_+1∧s41.at_<E.T.length∧s41.bad<0∧s42.bad=s41.bad)∨(s42.at_=s41.at_∧0≤s42.bad):=by rw [← es42];exact want_f _ _ _ _
        obtain ⟨ls43,cs43,s43,Rs43,Ds43⟩:=(HA.out m (by omega)).bin 1 s42 (by omega) (by omega) (nd 0 5 6 rfl rfl (by omega))
        have gs43:s42.at_≤s43.at_∧(0≤s42.bad→0≤s43.bad):=⟨Rs43.2.1,Rs43.2.2.1⟩
        simp only [es41,ets41,es42,Rs43.1] at hpz
        by_cases hcm:isP E.zs E.T s43 {data:=#[44]}=true
        ·rw [if_pos hcm] at hpz
         obtain ⟨s44,es44⟩:∃x,got E.zs E.T s43 {data:=#[44]}=x:=⟨_,rfl⟩
         have gs44:s44.at_=s43.at_+1∧s44.bad=s43.bad:=by rw [← es44];exact got_yes hcm
         have bs44:=is_bad hcm
         rw [es44] at hpz
         have t2:=Rs43.2.2.2
         have HN:Hid ((m≤f∧pz E.zs E.T m 10 n (ks++[[Nd.mk 15 0 ts41 [] 0]]++[ls43]) s44=(ys,cy,sy)∧need E.T 10 s44≤m∧tot (ks++[[Nd.mk 15 0 ts41 [] 0]]++[ls43])≤20*s44.at_+20∧(ks++[[Nd.mk 15 0 ts41 [] 0]]++[ls43]).length≤2*s44.at_+2∧0≤n∧n≤s44.at_)∧q.at_<s44.at_):=⟨⟨by omega,hpz,(nd 10 1 7 rfl rfl (by omega)),by simp only [tot_app,tot_one];omega,by simp;omega,by omega,by omega⟩,by omega⟩
         have HRs43:Hid _:=Rs43
         have HDs43:Hid _:=Ds43
         clear hpz hnd H3 nn htot t2 Rs43 Ds43 gs41 gs42 gs43 gs44 bs44
         go_wp2_with (first
          |(go_at_call 28;refine (C17.out.got hcm es44).mono ?_;rintro e w18 ⟨rfl,hC,hF⟩;have C18:Hid _:=hC;have K_18:Hid _:=C17.out.kids hF K_17.out;clear hC hF)
          |(at_builtin;refine wpList_kid rfl _ _ rfl C16.out _ rfl rfl rfl K_16.out (by simp) Y_16.out (by first|omega|(simp;done)|(simp;omega)) ?_;intro a17 c17 w17 Q17 hK hC hM;have C17:Hid _:=hC;have K_17:Hid _:=hK;clear hC hK hM)
          |(go_at_call 57;refine (C15.out.call HDs43.out).mono ?_;rintro e w16 ⟨a16,c16,rfl,hX,hC,hF⟩;have C16:Hid _:=hC;have K_16:Hid _:=C15.out.kids hF K_15.out;have Y_16:Hid _:=hX;clear hC hF hX)
          |(go_at_call 61;refine (C14.out.want es42).mono ?_;rintro e w15 ⟨⟨v15,rfl⟩,hC,hF⟩;have C15:Hid _:=hC;have K_15:Hid _:=C14.out.kids hF K_14.out;clear hC hF)
          |(at_builtin;obtain ⟨hCa,hFa⟩:=C13.out.bel (bel_alloc w13 (.cells #[.int .i64 15,.int .i64 0,.slice a13 ts41.length c13,.slice none 0 0,.int .i64 0] 61));have CA:Hid (Cur E w g Q (w13.alloc (.cells #[.int .i64 15,.int .i64 0,.slice a13 ts41.length c13,.slice none 0 0,.int .i64 0] 61)) s41):=hCa;have KA:Hid _:=C13.out.kids hFa K_13.out;have XA:Hid (FN (hd w Q) (w13.alloc (.cells #[.int .i64 15,.int .i64 0,.slice a13 ts41.length c13,.slice none 0 0,.int .i64 0] 61)) (.slice (some ⟨w13.heap.size,0,none⟩) 1 1) [Nd.mk 15 0 ts41 [] 0]):=fn_one (C13.out.new (Nat.le_refl _)) V_13.out (rdVV_nil _);clear hCa hFa;refine wpList_kidB rfl _ _ rfl CA.out (b:=w13.heap.size+1) (by simp) _ rfl rfl rfl KA.out (by simp) XA.out (by omega) ?_;intro a14 c14 w14 Q14 hK hC hM;have C14:Hid _:=hC;have K_14:Hid _:=hK;clear hC hK hM)
          |(go_at_call 58;refine (C12.out.name ets41 es41).mono ?_;rintro e w13 ⟨a13,c13,rfl,hX,hC,hF⟩;have C13:Hid _:=hC;have K_13:Hid _:=C12.out.kids hF K_12.out;have V_13:Hid _:=hX;clear hC hF hX))
         go_roundw
         case rel=>exact ⟨m,n,ks++[[Nd.mk 15 0 ts41 [] 0]]++[ls43],s44,Q17,a17,c17,by simp only [List.length_append];rfl,rfl,by simp only [List.length_append];exact K_18,C18,HN.out.1⟩
         case measure =>
          have:=C18.out.ms
          have:=C18.out.le
          have:=HN.out.2
          have:=ms_lt (T:=E.T) (s:=q) (s':=s44) (by omega) (by omega)
          omega
        ·rw [if_neg hcm] at hpz
         injection hpz with e1 e2
         injection e2 with e2 e3
         subst e1 e2 e3
         have HT:Hid (tot ks≤20*q.at_+20):=htot
         have HRs43:Hid _:=Rs43
         have HDs43:Hid _:=Ds43
         clear hnd H3 nn htot Rs43 Ds43 gs41 gs42 gs43
         go_wp2_with (first
          |(go_at_call 31;refine (C19.out.nodeK (n:=bare 20) K_19.out (rdV_nil _) (rdVV_nil _) (by have h1:=HT.out;have h2:=tot_le HRs43.out C16.out;(try simp only [tot_app,tot_one]);omega) (by first|omega|(simp;omega)|(simp;done))).mono ?_;rintro e w20 ⟨a20,c20,rfl,hX,hC,hF⟩;have C20:Hid _:=hC;have N_20:Hid _:=hX;clear hC hF hX)
          |(go_at_call 61;refine (C18.out.want es9).mono ?_;rintro e w19 ⟨⟨v19,rfl⟩,hC,hF⟩;have C19:Hid _:=hC;have K_19:Hid _:=C18.out.kids hF K_18.out;clear hC hF)
          |(go_at_call 28;refine (C17.out.got (bool_no hcm) (got_no hcm)).mono ?_;rintro e w18 ⟨rfl,hC,hF⟩;have C18:Hid _:=hC;have K_18:Hid _:=C17.out.kids hF K_17.out;clear hC hF)
          |(at_builtin;refine wpList_kid rfl _ _ rfl C16.out _ rfl rfl rfl K_16.out (by simp) Y_16.out (by first|omega|(simp;done)|(simp;omega)) ?_;intro a17 c17 w17 Q17 hK hC hM;have C17:Hid _:=hC;have K_17:Hid _:=hK;clear hC hK hM)
          |(go_at_call 57;refine (C15.out.call HDs43.out).mono ?_;rintro e w16 ⟨a16,c16,rfl,hX,hC,hF⟩;have C16:Hid _:=hC;have K_16:Hid _:=C15.out.kids hF K_15.out;have Y_16:Hid _:=hX;clear hC hF hX)
          |(go_at_call 61;refine (C14.out.want es42).mono ?_;rintro e w15 ⟨⟨v15,rfl⟩,hC,hF⟩;have C15:Hid _:=hC;have K_15:Hid _:=C14.out.kids hF K_14.out;clear hC hF)
          |(at_builtin;obtain ⟨hCa,hFa⟩:=C13.out.bel (bel_alloc w13 (.cells #[.int .i64 15,.int .i64 0,.slice a13 ts41.length c13,.slice none 0 0,.int .i64 0] 61));have CA:Hid (Cur E w g Q (w13.alloc (.cells #[.int .i64 15,.int .i64 0,.slice a13 ts41.length c13,.slice none 0 0,.int .i64 0] 61)) s41):=hCa;have KA:Hid _:=C13.out.kids hFa K_13.out;have XA:Hid (FN (hd w Q) (w13.alloc (.cells #[.int .i64 15,.int .i64 0,.slice a13 ts41.length c13,.slice none 0 0,.int .i64 0] 61)) (.slice (some ⟨w13.heap.size,0,none⟩) 1 1) [Nd.mk 15 0 ts41 [] 0]):=fn_one (C13.out.new (Nat.le_refl _)) V_13.out (rdVV_nil _);clear hCa hFa;refine wpList_kidB rfl _ _ rfl CA.out (b:=w13.heap.size+1) (by simp) _ rfl rfl rfl KA.out (by simp) XA.out (by omega) ?_;intro a14 c14 w14 Q14 hK hC hM;have C14:Hid _:=hC;have K_14:Hid _:=hK;clear hC hK hM)
          |(go_at_call 58;refine (C12.out.name ets41 es41).mono ?_;rintro e w13 ⟨a13,c13,rfl,hX,hC,hF⟩;have C13:Hid _:=hC;have K_13:Hid _:=C12.out.kids hF K_12.out;have V_13:Hid _:=hX;clear hC hF hX))
         go_returns
         exact C20.out.done2 N_20.out rfl (by simp)
       ·simp only [if_neg hnm] at hpz
        rw [bool_no hnm] at hbb
        subst hbb
        by_cases hsq:isP E.zs E.T q {data:=#[91]}=true
        ·simp only [if_pos hsq] at hpz
         obtain ⟨s41,es41⟩:∃x,got E.zs E.T q {data:=#[91]}=x:=⟨_,rfl⟩
         have gs41:s41.at_=q.at_+1∧s41.bad=q.bad:=by rw [← es41];exact got_yes hsq
         have bs41:=is_bad hsq
         obtain ⟨ls42,cs42,s42,Rs42,Ds42⟩:=(HA.out m (by omega)).bin 1 s41 (by omega) (by omega) (nd 0 5 6 rfl rfl (by omega))
         have gs42:s41.at_≤s42.at_∧(0≤s41.bad→0≤s42.bad):=⟨Rs42.2.1,Rs42.2.2.1⟩
         obtain ⟨s43,es43⟩:∃x,want E.zs E.T s42 {data:=#[93]}=x:=⟨_,rfl⟩
         have gs43:(s43.at_=s42.at_+1∧s42.at_<E.T.length∧s42.bad<0∧s43.bad=s42.bad)∨(s43.at_=s42.at_∧0≤s43.bad):=by rw [← es43];exact want_f _ _ _ _
         obtain ⟨s44,es44⟩:∃x,want E.zs E.T s43 {data:=#[61]}=x:=⟨_,rfl⟩
         have gs44:(s44.at_=s43.at_+1∧s43.at_<E.T.length∧s43.bad<0∧s44.bad=s43.bad)∨(s44.at_=s43.at_∧0≤s44.bad):=by rw [← es44];exact want_f _ _ _ _
         obtain ⟨ls45,cs45,s45,Rs45,Ds45⟩:=(HA.out m (by omega)).bin 1 s44 (by omega) (by omega) (nd 0 5 6 rfl rfl (by omega))
         have gs45:s44.at_≤s45.at_∧(0≤s44.bad→0≤s45.bad):=⟨Rs45.2.1,Rs45.2.2.1⟩
         simp only [es41,Rs42.1,es43,es44,Rs45.1] at hpz
         by_cases hcm:isP E.zs E.T s45 {data:=#[44]}=true
         ·rw [if_pos hcm] at hpz
          obtain ⟨s46,es46⟩:∃x,got E.zs E.T s45 {data:=#[44]}=x:=⟨_,rfl⟩
          have gs46:s46.at_=s45.at_+1∧s46.bad=s45.bad:=by rw [← es46];exact got_yes hcm
          have bs46:=is_bad hcm
          rw [es46] at hpz
          have t2:=Rs45.2.2.2
          have HN:Hid ((m≤f∧pz E.zs E.T m 10 n (ks++[ls42]++[ls45]) s46=(ys,cy,sy)∧need E.T 10 s46≤m∧tot (ks++[ls42]++[ls45])≤20*s46.at_+20∧(ks++[ls42]++[ls45]).length≤2*s46.at_+2∧0≤n∧n≤s46.at_)∧q.at_<s46.at_):=⟨⟨by omega,hpz,(nd 10 1 7 rfl rfl (by omega)),by simp only [tot_app,tot_one];have t3:=Rs42.2.2.2;omega,by simp;omega,by omega,by omega⟩,by omega⟩
          have HRs42:Hid _:=Rs42
          have HDs42:Hid _:=Ds42
          have HRs45:Hid _:=Rs45
          have HDs45:Hid _:=Ds45
          clear hpz hnd H3 nn htot t2 Rs42 Ds42 Rs45 Ds45 gs41 bs41 gs42 gs43 gs44 gs45 gs46 bs46
          go_wp2_with (first
           |(go_at_call 28;refine (C19.out.got hcm es46).mono ?_;rintro e w20 ⟨rfl,hC,hF⟩;have C20:Hid _:=hC;have K_20:Hid _:=C19.out.kids hF K_19.out;clear hC hF)
           |(at_builtin;refine wpList_kid rfl _ _ rfl C18.out _ rfl rfl rfl K_18.out (by simp) Y_18.out (by first|omega|(simp;done)|(simp;omega)) ?_;intro a19 c19 w19 Q19 hK hC hM;have C19:Hid _:=hC;have K_19:Hid _:=hK;clear hC hK hM)
           |(go_at_call 57;refine (C17.out.call HDs45.out).mono ?_;rintro e w18 ⟨a18,c18,rfl,hX,hC,hF⟩;have C18:Hid _:=hC;have K_18:Hid _:=C17.out.kids hF K_17.out;have Y_18:Hid _:=hX;clear hC hF hX)
           |(go_at_call 61;refine (C16.out.want es44).mono ?_;rintro e w17 ⟨⟨v17,rfl⟩,hC,hF⟩;have C17:Hid _:=hC;have K_17:Hid _:=C16.out.kids hF K_16.out;clear hC hF)
           |(go_at_call 61;refine (C15.out.want es43).mono ?_;rintro e w16 ⟨⟨v16,rfl⟩,hC,hF⟩;have C16:Hid _:=hC;have K_16:Hid _:=C15.out.kids hF K_15.out;clear hC hF)
           |(at_builtin;refine wpList_kid rfl _ _ rfl C14.out _ rfl rfl rfl K_14.out (by simp) X_14.out (by first|omega|(simp;done)|(simp;omega)) ?_;intro a15 c15 w15 Q15 hK hC hM;have C15:Hid _:=hC;have K_15:Hid _:=hK;clear hC hK hM)
           |(go_at_call 57;refine (C13.out.call HDs42.out).mono ?_;rintro e w14 ⟨a14,c14,rfl,hX,hC,hF⟩;have C14:Hid _:=hC;have K_14:Hid _:=C13.out.kids hF K_13.out;have X_14:Hid _:=hX;clear hC hF hX)
           |(go_at_call 28;refine (C12.out.got hsq es41).mono ?_;rintro e w13 ⟨rfl,hC,hF⟩;have C13:Hid _:=hC;have K_13:Hid _:=C12.out.kids hF K_12.out;clear hC hF))
          go_roundw
          case rel=>exact ⟨m,n,ks++[ls42]++[ls45],s46,Q19,a19,c19,by simp only [List.length_append];rfl,rfl,by simp only [List.length_append];exact K_20,C20,HN.out.1⟩
          case measure =>
           have:=C20.out.ms
           have:=C20.out.le
           have:=HN.out.2
           have:=ms_lt (T:=E.T) (s:=q) (s':=s46) (by omega) (by omega)
           omega
         ·rw [if_neg hcm] at hpz
          injection hpz with e1 e2
          injection e2 with e2 e3
          subst e1 e2 e3
          have HT:Hid (tot ks≤20*q.at_+20):=htot
          have HRs42:Hid _:=Rs42
          have HDs42:Hid _:=Ds42
          have HRs45:Hid _:=Rs45
          have HDs45:Hid _:=Ds45
          clear hnd H3 nn htot Rs42 Ds42 Rs45 Ds45 gs41 bs41 gs42 gs43 gs44 gs45
          go_wp2_with (first
           |(go_at_call 31;refine (C21.out.nodeK (n:=bare 20) K_21.out (rdV_nil _) (rdVV_nil _) (by have h1:=HT.out;have h2:=tot_le HRs45.out C18.out;have h3:=tot_le HRs42.out C14.out;(try simp only [tot_app,tot_one]);omega) (by first|omega|(simp;omega)|(simp;done))).mono ?_;rintro e w22 ⟨a22,c22,rfl,hX,hC,hF⟩;have C22:Hid _:=hC;have N_22:Hid _:=hX;clear hC hF hX)
           |(go_at_call 61;refine (C20.out.want es9).mono ?_;rintro e w21 ⟨⟨v21,rfl⟩,hC,hF⟩;have C21:Hid _:=hC;have K_21:Hid _:=C20.out.kids hF K_20.out;clear hC hF)
           |(go_at_call 28;refine (C19.out.got (bool_no hcm) (got_no hcm)).mono ?_;rintro e w20 ⟨rfl,hC,hF⟩;have C20:Hid _:=hC;have K_20:Hid _:=C19.out.kids hF K_19.out;clear hC hF)
           |(at_builtin;refine wpList_kid rfl _ _ rfl C18.out _ rfl rfl rfl K_18.out (by simp) Y_18.out (by first|omega|(simp;done)|(simp;omega)) ?_;intro a19 c19 w19 Q19 hK hC hM;have C19:Hid _:=hC;have K_19:Hid _:=hK;clear hC hK hM)
           |(go_at_call 57;refine (C17.out.call HDs45.out).mono ?_;rintro e w18 ⟨a18,c18,rfl,hX,hC,hF⟩;have C18:Hid _:=hC;have K_18:Hid _:=C17.out.kids hF K_17.out;have Y_18:Hid _:=hX;clear hC hF hX)
           |(go_at_call 61;refine (C16.out.want es44).mono ?_;rintro e w17 ⟨⟨v17,rfl⟩,hC,hF⟩;have C17:Hid _:=hC;have K_17:Hid _:=C16.out.kids hF K_16.out;clear hC hF)
           |(go_at_call 61;refine (C15.out.want es43).mono ?_;rintro e w16 ⟨⟨v16,rfl⟩,hC,hF⟩;have C16:Hid _:=hC;have K_16:Hid _:=C15.out.kids hF K_15.out;clear hC hF)
           |(at_builtin;refine wpList_kid rfl _ _ rfl C14.out _ rfl rfl rfl K_14.out (by simp) X_14.out (by first|omega|(simp;done)|(simp;omega)) ?_;intro a15 c15 w15 Q15 hK hC hM;have C15:Hid _:=hC;have K_15:Hid _:=hK;clear hC hK hM)
           |(go_at_call 57;refine (C13.out.call HDs42.out).mono ?_;rintro e w14 ⟨a14,c14,rfl,hX,hC,hF⟩;have C14:Hid _:=hC;have K_14:Hid _:=C13.out.kids hF K_13.out;have X_14:Hid _:=hX;clear hC hF hX)
           |(go_at_call 28;refine (C12.out.got hsq es41).mono ?_;rintro e w13 ⟨rfl,hC,hF⟩;have C13:Hid _:=hC;have K_13:Hid _:=C12.out.kids hF K_12.out;clear hC hF))
          go_returns
          exact C22.out.done2 N_22.out rfl (by simp)
        ·simp only [if_neg hsq] at hpz
         obtain ⟨ls41,cs41,s41,Rs41,Ds41⟩:=(HA.out m (by omega)).bin 1 q (by omega) (by omega) (nd 0 5 6 rfl rfl (by omega))
         have gs41:q.at_≤s41.at_∧(0≤q.bad→0≤s41.bad):=⟨Rs41.2.1,Rs41.2.2.1⟩
         simp only [Rs41.1] at hpz
         by_cases hcm:isP E.zs E.T s41 {data:=#[44]}=true
         ·rw [if_pos hcm] at hpz
          obtain ⟨s42,es42⟩:∃x,got E.zs E.T s41 {data:=#[44]}=x:=⟨_,rfl⟩
          have gs42:s42.at_=s41.at_+1∧s42.bad=s41.bad:=by rw [← es42];exact got_yes hcm
          have bs42:=is_bad hcm
          rw [es42] at hpz
          have t2:=Rs41.2.2.2
          have HN:Hid ((m≤f∧pz E.zs E.T m 10 (n+1) (ks++[[Nd.mk 14 (n+1) [] [] 0]]++[ls41]) s42=(ys,cy,sy)∧need E.T 10 s42≤m∧tot (ks++[[Nd.mk 14 (n+1) [] [] 0]]++[ls41])≤20*s42.at_+20∧(ks++[[Nd.mk 14 (n+1) [] [] 0]]++[ls41]).length≤2*s42.at_+2∧0≤(n+1)∧(n+1)≤s42.at_)∧q.at_<s42.at_):=⟨⟨by omega,hpz,(nd 10 1 7 rfl rfl (by omega)),by simp only [tot_app,tot_one];omega,by simp;omega,by omega,by omega⟩,by omega⟩
          have HRs41:Hid _:=Rs41
          have HDs41:Hid _:=Ds41
          clear hpz hnd H3 nn htot t2 Rs41 Ds41 gs41 gs42 bs42
          go_wp2_with (first
           |(go_at_call 28;refine (C16.out.got hcm es42).mono ?_;rintro e w17 ⟨rfl,hC,hF⟩;have C17:Hid _:=hC;have K_17:Hid _:=C16.out.kids hF K_16.out;clear hC hF)
           |(at_builtin;refine wpList_kid rfl _ _ rfl C15.out _ rfl rfl rfl K_15.out (by simp) Y_15.out (by first|omega|(simp;done)|(simp;omega)) ?_;intro a16 c16 w16 Q16 hK hC hM;have C16:Hid _:=hC;have K_16:Hid _:=hK;clear hC hK hM)
           |(go_at_call 57;refine (C14.out.call HDs41.out).mono ?_;rintro e w15 ⟨a15,c15,rfl,hX,hC,hF⟩;have C15:Hid _:=hC;have K_15:Hid _:=C14.out.kids hF K_14.out;have Y_15:Hid _:=hX;clear hC hF hX)
           |(at_builtin;obtain ⟨hCa,hFa⟩:=C13.out.bel (bel_alloc w13 (.cells #[.int .i64 14,.int .i64 (n+1),.slice none 0 0,.slice none 0 0,.int .i64 0] 61));have CA:Hid (Cur E w g Q (w13.alloc (.cells #[.int .i64 14,.int .i64 (n+1),.slice none 0 0,.slice none 0 0,.int .i64 0] 61)) q):=hCa;have KA:Hid _:=C13.out.kids hFa K_13.out;have XA:Hid (FN (hd w Q) (w13.alloc (.cells #[.int .i64 14,.int .i64 (n+1),.slice none 0 0,.slice none 0 0,.int .i64 0] 61)) (.slice (some ⟨w13.heap.size,0,none⟩) 1 1) [Nd.mk 14 (n+1) [] [] 0]):=fn_one (C13.out.new (Nat.le_refl _)) (rdV_nil _) (rdVV_nil _);clear hCa hFa;refine wpList_kidB rfl _ _ rfl CA.out (b:=w13.heap.size+1) (by simp) _ rfl rfl rfl KA.out (by simp) XA.out (by omega) ?_;intro a14 c14 w14 Q14 hK hC hM;have C14:Hid _:=hC;have K_14:Hid _:=hK;clear hC hK hM)
           |(go_at_call 28;refine (C12.out.got (bool_no hsq) (got_no hsq)).mono ?_;rintro e w13 ⟨rfl,hC,hF⟩;have C13:Hid _:=hC;have K_13:Hid _:=C12.out.kids hF K_12.out;clear hC hF))
          go_roundw
          case rel=>exact ⟨m,(n+1),ks++[[Nd.mk 14 (n+1) [] [] 0]]++[ls41],s42,Q16,a16,c16,by simp only [List.length_append];rfl,rfl,by simp only [List.length_append];exact K_17,C17,HN.out.1⟩
          case measure =>
           have:=C17.out.ms
           have:=C17.out.le
           have:=HN.out.2
           have:=ms_lt (T:=E.T) (s:=q) (s':=s42) (by omega) (by omega)
           omega
         ·rw [if_neg hcm] at hpz
          injection hpz with e1 e2
          injection e2 with e2 e3
          subst e1 e2 e3
          have HT:Hid (tot ks≤20*q.at_+20):=htot
          have HRs41:Hid _:=Rs41
          have HDs41:Hid _:=Ds41
          clear hnd H3 nn htot Rs41 Ds41 gs41
          go_wp2_with (first
           |(go_at_call 31;refine (C18.out.nodeK (n:=bare 20) K_18.out (rdV_nil _) (rdVV_nil _) (by have h1:=HT.out;have h2:=tot_le HRs41.out C15.out;(try simp only [tot_app,tot_one]);omega) (by first|omega|(simp;omega)|(simp;done))).mono ?_;rintro e w19 ⟨a19,c19,rfl,hX,hC,hF⟩;have C19:Hid _:=hC;have N_19:Hid _:=hX;clear hC hF hX)
           |(go_at_call 61;refine (C17.out.want es9).mono ?_;rintro e w18 ⟨⟨v18,rfl⟩,hC,hF⟩;have C18:Hid _:=hC;have K_18:Hid _:=C17.out.kids hF K_17.out;clear hC hF)
           |(go_at_call 28;refine (C16.out.got (bool_no hcm) (got_no hcm)).mono ?_;rintro e w17 ⟨rfl,hC,hF⟩;have C17:Hid _:=hC;have K_17:Hid _:=C16.out.kids hF K_16.out;clear hC hF)
           |(at_builtin;refine wpList_kid rfl _ _ rfl C15.out _ rfl rfl rfl K_15.out (by simp) Y_15.out (by first|omega|(simp;done)|(simp;omega)) ?_;intro a16 c16 w16 Q16 hK hC hM;have C16:Hid _:=hC;have K_16:Hid _:=hK;clear hC hK hM)
           |(go_at_call 57;refine (C14.out.call HDs41.out).mono ?_;rintro e w15 ⟨a15,c15,rfl,hX,hC,hF⟩;have C15:Hid _:=hC;have K_15:Hid _:=C14.out.kids hF K_14.out;have Y_15:Hid _:=hX;clear hC hF hX)
           |(at_builtin;obtain ⟨hCa,hFa⟩:=C13.out.bel (bel_alloc w13 (.cells #[.int .i64 14,.int .i64 (n+1),.slice none 0 0,.slice none 0 0,.int .i64 0] 61));have CA:Hid (Cur E w g Q (w13.alloc (.cells #[.int .i64 14,.int .i64 (n+1),.slice none 0 0,.slice none 0 0,.int .i64 0] 61)) q):=hCa;have KA:Hid _:=C13.out.kids hFa K_13.out;have XA:Hid (FN (hd w Q) (w13.alloc (.cells #[.int .i64 14,.int .i64 (n+1),.slice none 0 0,.slice none 0 0,.int .i64 0] 61)) (.slice (some ⟨w13.heap.size,0,none⟩) 1 1) [Nd.mk 14 (n+1) [] [] 0]):=fn_one (C13.out.new (Nat.le_refl _)) (rdV_nil _) (rdVV_nil _);clear hCa hFa;refine wpList_kidB rfl _ _ rfl CA.out (b:=w13.heap.size+1) (by simp) _ rfl rfl rfl KA.out (by simp) XA.out (by omega) ?_;intro a14 c14 w14 Q14 hK hC hM;have C14:Hid _:=hC;have K_14:Hid _:=hK;clear hC hK hM)
           |(go_at_call 28;refine (C12.out.got (bool_no hsq) (got_no hsq)).mono ?_;rintro e w13 ⟨rfl,hC,hF⟩;have C13:Hid _:=hC;have K_13:Hid _:=C12.out.kids hF K_12.out;clear hC hF))
          go_returns
          exact C19.out.done2 N_19.out rfl (by simp)
end ps
end Go.Proofs.YtkmiagkehcflnaaGreatDoor
