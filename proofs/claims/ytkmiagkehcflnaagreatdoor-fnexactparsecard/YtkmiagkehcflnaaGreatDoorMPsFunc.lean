import Derived.Test.YtkmiagkehcflnaaGreatDoorMPsUna
set_option maxRecDepth 100000
set_option maxHeartbeats 8000000
namespace Go.Proofs.YtkmiagkehcflnaaGreatDoor
namespace ps
open Go.RowKit bts nod lex tk
theorem ms_lt {T:List (Int×Nat×Nat)} {s s':Ps} (h:s.at_<s'.at_) (hl:s'.at_≤T.length):msz T s'<msz T s:=by
 unfold msz
 split <;> split <;> omega
theorem need_pos (T:List (Int×Nat×Nat)) (tag:Nat) (s:Ps) (h:1≤cBad tag) (h2:1≤cOk tag):1≤need T tag s:=by
 rcases need_or T tag s with ⟨_,e⟩|⟨_,e⟩ <;> omega
theorem exs_next {E:En} (ok:E.ok) {f:Nat} (A:∀m,m≤f→Al E m) (s:Ps) (hn0:need E.T 6 s≤f+1):∃ks c s',Rs E (f+1) 6 0 s ks c s'∧ks.length≤s'.at_+1∧NodsK E 30 ag1 s ks s':=by
 have hn:(0≤s.bad∧6≤f+1)∨(s.bad<0∧20*(E.T.length-s.at_)+7≤f+1):=nx hn0 rfl rfl
 obtain ⟨l1,c1,s1,R1,D1⟩:=(A f (Nat.le_refl _)).bin 1 s (by omega) (by omega) (nd 0 5 6 rfl rfl (by omega))
 have g1:s.at_≤s1.at_∧(0≤s.bad→0≤s1.bad):=⟨R1.2.1,R1.2.2.1⟩
 have n7:need E.T 7 s1≤f:=by have nn:(0≤s1.bad∧need E.T 7 s1=1)∨(s1.bad<0∧need E.T 7 s1=20*(E.T.length-s1.at_)+6):=need_or E.T 7 s1;omega
 obtain ⟨Y,hY⟩:∃Y,pz E.zs E.T f 7 0 [l1] s1=Y:=⟨_,rfl⟩
 obtain ⟨ys,cy,sy⟩:=Y
 have hlen:ys.length≤sy.at_+1:=by
  have H:∀(m:Nat) (ks:List (List Nd)) (s:Ps) (r:List (List Nd)×Int×Ps),need E.T 7 s≤m→pz E.zs E.T m 7 0 ks s=r→ks.length≤s.at_+1→m≤f→r.1.length≤r.2.2.at_+1:=by
   intro m
   induction m with
   |zero=>intro ks s r hm;have:=need_pos E.T 7 s (by decide) (by decide);omega
   |succ m ih =>
    intro ks s r hm hr hk hmf
    rw [pz_7] at hr
    unfold pB7 at hr
    by_cases h:isP E.zs E.T s {data:=#[44]}=true
    ·rw [if_pos h] at hr
     dsimp only at hr
     have gg:=got_yes h
     have gb:=is_bad h
     have nn:(0≤s.bad∧need E.T 7 s=1)∨(s.bad<0∧need E.T 7 s=20*(E.T.length-s.at_)+6):=need_or E.T 7 s
     obtain ⟨l2,c2,s2,R2,_⟩:=(A m (by omega)).bin 1 (got E.zs E.T s {data:=#[44]}) (by omega) (by omega) (by have n2:=need_le E.T 0 (got E.zs E.T s {data:=#[44]}) (by decide);have:cOk 0=6:=rfl;omega)
     rw [R2.1] at hr
     have ga:=R2.2.1
     refine ih (ks++[l2]) s2 r (by have n2:=need_le E.T 7 s2 (by decide);have:cOk 7=6:=rfl;omega) hr (by simp;omega) (by omega)
    ·rw [if_neg h] at hr
     subst hr
     exact hk
  exact H f [l1] s1 (ys,cy,sy) n7 hY (by simp) (Nat.le_refl _)
 refine ⟨ys,0,longer sy (decide (50<ys.length)),rs_of (by decide) hn0 (by rw [pz_6];unfold pB6;dsimp only;rw [R1.1];dsimp only;rw [hY]) (by decide),hlen,fun w g hP=>?_⟩
 have C0:Hid (Cur E w g no w s):=Cur.start ok hP
 have HD1:Hid _:=D1
 have HY:Hid (pz E.zs E.T f 7 0 [l1] s1=(ys,cy,sy)∧need E.T 7 s1≤f∧tot [l1]≤20*s1.at_+10):=⟨hY,n7,by have:=R1.2.2.2;omega⟩
 have HA:Hid (∀m,m≤f→Al E m):=A
 have HM:E.T.length≤6000:=ok.many
 clear hP hn hn0 D1 R1 g1 hY n7 hlen A
 unfold ag1
 go_enter Tryz.func30,Tryz.ntmps30
 go_wp2_with (go_at_call 57;refine (C0.out.call HD1.out).mono ?_;rintro e w1 ⟨a1,c1,rfl,hX,hC,hF⟩;have C1:Hid _:=hC;have X1:Hid _:=hX;clear hC hF hX)
 obtain ⟨Q2,hC2,hK2,_⟩:=C1.out.lit (kr_one X1.out) rfl (by simp)
 have C2:Hid _:=hC2
 have K2:Hid _:=hK2
 clear hC2 hK2
 go_loopw [3] (fun v wr=>∃(m:Nat) (ks:List (List Nd)) (q:Ps) (Q:Nat→Bool) (a:Option Addr) (c:Nat),v=.slice a ks.length c∧Hid (Kids w Q wr (.slice a ks.length c) ks)∧Hid (Cur E w g Q wr q)∧Hid (m≤f∧pz E.zs E.T m 7 0 ks q=(ys,cy,sy)∧need E.T 7 q≤m∧tot ks≤20*q.at_+10∧ks.length≤q.at_+1)) (fun _ wr=>msW E.T g wr)
 case atStart=>exact ⟨f,[l1],s1,Q2,_,_,rfl,K2,C2,⟨Nat.le_refl _,HY.out.1,HY.out.2.1,HY.out.2.2,by simp⟩⟩
 case round =>
  obtain ⟨m,ks,q,Q,a,c,rfl,K3,C3,H3⟩:=hrel
  obtain ⟨hm,hpz,hnd,htot,hkl⟩:=H3.out
  have hms:=C3.out.ms
  have hq6:=C3.out.le
  cases m with
  |zero=>have:=need_pos E.T 7 q (by decide) (by decide);omega
  |succ m =>
   rw [pz_7] at hpz
   unfold pB7 at hpz
   by_cases h:isP E.zs E.T q {data:=#[44]}=true
   ·rw [if_pos h] at hpz
    dsimp only at hpz
    have gb:=is_bad h
    have nn:(0≤q.bad∧need E.T 7 q=1)∨(q.bad<0∧need E.T 7 q=20*(E.T.length-q.at_)+6):=need_or E.T 7 q
    obtain ⟨q1,e1⟩:∃x,got E.zs E.T q {data:=#[44]}=x:=⟨_,rfl⟩
    have gg:q1.at_=q.at_+1∧q1.bad=q.bad:=by rw [← e1];exact got_yes h
    rw [e1] at hpz
    obtain ⟨l2,d2,q2,R2,D2⟩:=(HA.out m (by omega)).bin 1 q1 (by omega) (by omega) (by have n2:=need_le E.T 0 q1 (by decide);have:cOk 0=6:=rfl;omega)
    rw [R2.1] at hpz
    dsimp only at hpz
    have ga:=R2.2.1
    have gt:=R2.2.2.2
    have HD2:Hid _:=D2
    have HN:Hid (m≤f∧pz E.zs E.T m 7 0 (ks++[l2]) q2=(ys,cy,sy)∧need E.T 7 q2≤m∧tot (ks++[l2])≤20*q2.at_+10∧(ks++[l2]).length≤q2.at_+1∧q.at_<q2.at_):=⟨by omega,hpz,by have n2:=need_le E.T 7 q2 (by decide);have:cOk 7=6:=rfl;omega,by rw [tot_app];omega,by simp;omega,by omega⟩
    have hl9:ks.length≤6001:=by omega
    clear hpz nn gg gb ga gt R2 D2 hnd htot H3
    go_wp2_with (first
     |(at_builtin;refine wpList_kid rfl _ _ rfl C5.out _ rfl rfl rfl K5.out rfl X5.out (by omega) ?_;intro a6 c6 w6 Q6 hK hC _hM;have C6:Hid _:=hC;have K6:Hid _:=hK;clear hC hK _hM)
     |(go_at_call 57;refine (C4.out.call HD2.out).mono ?_;rintro e w5 ⟨a5,c5,rfl,hX,hC,hF⟩;have C5:Hid _:=hC;have X5:Hid _:=hX;have K5:Hid _:=C4.out.kids hF K4.out;clear hC hF hX)
     |(go_at_call 28;refine (C3.out.got h e1).mono ?_;rintro e w4 ⟨rfl,hC,hF⟩;have C4:Hid _:=hC;have K4:Hid _:=C3.out.kids hF K3.out;clear hC hF))
    go_roundw
    case rel=>exact ⟨m,ks++[l2],q2,Q6,a6,c6,by rw [List.length_append];rfl,by rw [List.length_append];exact K6,C6,⟨HN.out.1,HN.out.2.1,HN.out.2.2.1,HN.out.2.2.2.1,HN.out.2.2.2.2.1⟩⟩
    case measure =>
     have:=C6.out.ms
     have:=C6.out.le
     have:=HN.out.2.2.2.2.2
     have:=ms_lt (T:=E.T) (s:=q) (s':=q2) (by omega) (by omega)
     omega
   ·rw [if_neg h] at hpz
    injection hpz with e1 e2
    injection e2 with e2 e3
    subst e1 e3
    clear hnd htot H3
    have hl:q.long=true∨q.long=false:=by cases q.long <;> simp
    have FIN:Hid (∀(w5:World) (b:Bool),Cur E w g Q w5 q→Kids w Q w5 (.slice a ks.length c) ks→b=(q.long || decide (50<ks.length))→∃a' c',Ending.returned (.slice a ks.length c)=.returned (.slice a' ks.length c')∧FNs (tk.lt w.heap.size) (w5.setCell ⟨g,4,none⟩ (.bool b)) (.slice a' ks.length c') ks∧E.pp (w5.setCell ⟨g,4,none⟩ (.bool b)) g (longer q (decide (50<ks.length)))∧Fq g w (w5.setCell ⟨g,4,none⟩ (.bool b))):=fun w5 b hC hK hb=>by
     obtain ⟨h1,h2⟩:=hC.setLong b
     refine ⟨a,c,rfl,kids_fns (hC.kids h2 hK),?_,h1.fq⟩
     have:=h1.pp
     rw [hb] at this ⊢
     exact this
    rcases hl with hl|hl
    ·go_wp2_with (go_at_call 28;refine (C3.out.got (bool_no h) (got_no h)).mono ?_;rintro e w4 ⟨rfl,hC,hF⟩;have C4:Hid _:=hC;have K4:Hid _:=C3.out.kids hF K3.out;have d4:=C4.out.c4;have f4:=C4.out.free 4;rw [hl] at d4;clear hC hF)
     go_returns
     exact FIN.out _ _ C4.out K4.out (by rw [hl];simp)
    ·go_wp2_with (go_at_call 28;refine (C3.out.got (bool_no h) (got_no h)).mono ?_;rintro e w4 ⟨rfl,hC,hF⟩;have C4:Hid _:=hC;have K4:Hid _:=C3.out.kids hF K3.out;have d4:=C4.out.c4;have f4:=C4.out.free 4;rw [hl] at d4;clear hC hF)
     go_returns
     exact FIN.out _ _ C4.out K4.out (by rw [hl,Bool.false_or];exact decide_eq_decide.2 (by omega))
theorem info_text:(Tryz.prog.info? 22).map (fun i=>(i.zero,i.size,i.bytes))=some (some (.slice none 0 0),1,24):=by kernel_rfl
section
variable {E:En} {Q Q':Nat→Bool} {w W W':World} {g:Nat} {s s':Ps} {x:Value}
def Txts (w:World) (Q:Nat→Bool) (W:World) (v:Value) (ts:List (List Int)):Prop:=∃us,W.ownsRow w.heap.size 22 1 v ts.length us∧(∀b,v.ownBlock=some b→Q b=true)∧us.length=ts.length∧∀i,i<ts.length→∃u,us[i]?=some u∧RdV (veil (hd w Q) W) u (ts.getD i [])
theorem Cur.txts {ts:List (List Int)} (C:Cur E w g Q W s) (hF:Fq g W W') (h:Txts w Q W x ts):Txts w Q W' x ts:=by
 obtain ⟨us,h1,h2,h3,h4⟩:=h
 refine ⟨us,own_far h1 (fun b e=>?_),h2,h3,fun i hi=>?_⟩
 ·have hb:=h1.lt b e
  have:=C.hg
  exact hF.keep b hb.2 (by omega)
 ·obtain ⟨u,e,hr⟩:=h4 i hi
  exact ⟨u,e,RdV.up hr (C.up hF)⟩
theorem txts_rdvv {ts:List (List Int)} {a:Option Addr} {m c:Nat} (h:Txts w Q W (.slice a m c) ts) (hl:ts.length≤100000):RdVV (veil (tk.lt w.heap.size) W) (.slice a m c) ts:=by
 obtain ⟨us,h1,h0,h2,h3⟩:=h
 rcases h1.2 with ⟨e,e0⟩|⟨g,cap,cur,e,hg,hh,hnc,_,hs,ht⟩
 ·simp only [Value.slice.injEq] at e
  obtain ⟨rfl,rfl,rfl⟩:=e
  have:ts.length=0:=by omega
  exact ⟨none,0,by rw [this],by omega,fun i hi=>absurd hi (by omega)⟩
 ·simp only [Value.slice.injEq] at e
  obtain ⟨rfl,rfl,rfl⟩:=e
  refine ⟨_,_,rfl,by omega,fun i hi=>?_⟩
  obtain ⟨u,e,hr⟩:=h3 i hi
  refine ⟨g,0,u,rfl,cell_veil ?_ (lt_ge hg),rdv_veils hr (fun b _ hb=>by simp [hd] at hb;exact hb.1)⟩
  rw [Nat.zero_add,World.ownsRow.cellAt h1 i (by omega)]
  exact e
theorem Cur.litT (C:Cur E w g Q W s) {u:Value} {y:List Int} (h:RdV (veil (hd w Q) W) u y) :
  ∃Q',Cur E w g Q' (W.alloc (.cells #[u] 22)) s∧Txts w Q' (W.alloc (.cells #[u] 22)) (.slice (some ⟨W.heap.size,0,none⟩) 1 1) [y]:=by
 obtain ⟨h1,h2⟩:=C.grow (v:=.slice (some ⟨W.heap.size,0,none⟩) 1 1) (bel_alloc W (.cells #[u] 22)) (World.grownBy.refl _ none) (fun b e=>by cases e) (fun b e=>by
  cases e
  exact ⟨by simp,.inr (Nat.le_refl _)⟩)
 refine ⟨_,h1,[u],lit_row (us:=[u]) (T:=22) C.sz (by simp),fun b e=>by simp [qn,e],rfl,fun i hi=>?_⟩
 have:i=0:=by simpa using hi
 subst this
 exact ⟨u,rfl,h2.rv h⟩
theorem wpList_text {ops:Array Oper} {rest:List Oper} {o:Oper} {a:Act} {K:Exit→Act→World→Prop} (hgd:o.guard=none) (sv xv:Operand)
  (ho:o.op=.call {callee:=.builtin .append,args:=#[sv,xv],argTypes:=#[59,59]})
  (C:Cur E w g Q W s) {ao:Option Addr} {n c:Nat} {ts:List (List Int)} {y:List Int} (u:Value) (hs:a.eval sv=.slice ao n c) (hxe:a.eval xv=.slice (some ⟨W.heap.size,0,none⟩) 1 1) (hW:W'=W.alloc (.cells #[u] 22))
  (hK:Txts w Q W (.slice ao n c) ts) (hn:n=ts.length) (hx:RdV (veil (hd w Q) W) u y) (hm:ts.length≤90000)
  (h:∀a' c' w' Q',Txts w Q' w' (.slice a' (n+1) c') (ts++[y])→Cur E w g Q' w' s→wpList Tryz.prog ops K rest (a.put o.dst (.slice a' (n+1) c')) w'):wpList Tryz.prog ops K (o::rest) a W':=by
 subst hW
 refine wpList_plain hgd fun K' hK'=>?_
 obtain ⟨us,h1,h2,h3,h4⟩:=hK
 obtain ⟨i0,hi0,hz0,hz1,hz2⟩:=info_parts info_text
 have hsz:=C.sz
 have hb:=bel_alloc W (.cells #[u] 22)
 have o1:(W.alloc (.cells #[u] 22)).ownsRow w.heap.size 22 1 (.slice ao n c) n us:=by
  subst hn
  exact own_far h1 (fun b e=>hb.block b (h1.lt b e).2)
 obtain ⟨a',c',w',e1,e2⟩:=run_append_row (W.alloc (.cells #[u] 22)) 59 o.type 22 i0 (.slice none 0 0) 1 24 Tryz.underlying59 hi0 hz0 hz1 hz2 rfl (by omega) w.heap.size ao n c us o1 (some ⟨W.heap.size,0,none⟩) 1 1 [u] (by simp) (fun _=>⟨_,rfl,fun j u hu=>by
  rw [plainAt,Nat.zero_add]
  unfold World.cell?
  rw [heap_alloc_new]
  simpa using hu⟩) (fun u' hu'=>by rw [List.mem_singleton.1 hu'];exact rdV_slice hx) (by unfold maxLen;omega) (by omega) (by have:=hb.size;omega)
 obtain ⟨h5,h6⟩:=C.grow (v:=.slice a' (n+1) c') hb e2.grow h2 (fun b e=>⟨(e2.own.lt b e).2,by
  rcases e2.lies with ⟨rfl,rfl⟩|⟨g',rfl,h|h⟩
  ·left
   cases a' with
   |none=>cases e
   |some y=>exact h2 b e
  ·cases e;exact .inl (h2 _ h)
  ·cases e;right;rw [h];exact hb.size⟩)
 unfold Oper.wp execOp
 simp only [ho,resolve,invoke,builtin,Sem.run_bind,Sem.run_pure,Result.andThen_ok,List.map_toArray,List.map_cons,List.map_nil,hs,hxe,e1]
 refine hK' _ _ (h a' c' w' _ ⟨us++[u],by rw [List.length_append,List.length_singleton,← hn];exact e2.own,fun b e=>by simp [qn,e],by simp [h3],fun i hi=>?_⟩ h5)
 rw [List.length_append,List.length_singleton] at hi
 by_cases hl:i<ts.length
 ·obtain ⟨u',e,hr⟩:=h4 i hl
  exact ⟨u',by rw [List.getElem?_append_left (by omega)];exact e,by rw [List.getD_eq_getElem?_getD,List.getElem?_append_left hl,← List.getD_eq_getElem?_getD];exact h6.rv hr⟩
 ·obtain rfl:i=ts.length:=by omega
  exact ⟨u,by rw [List.getElem?_append_right (by omega),h3,Nat.sub_self];rfl,by rw [List.getD_eq_getElem?_getD,List.getElem?_append_right (Nat.le_refl _),Nat.sub_self];exact h6.rv hx⟩
end
theorem l3names_any {E:En} (ok:E.ok) {w:World} {g:Nat} {s:Ps} (hP:E.pp w g s) :
  Calls Tryz.prog 60 #[.pointer (some ⟨g,0,none⟩)] w fun e w'=>∃a c,e=.returned (.slice a (names E.zs E.T s).1.length c)∧RdVV (veil (tk.lt w.heap.size) w') (.slice a (names E.zs E.T s).1.length c) (names E.zs E.T s).1∧E.pp w' g (names E.zs E.T s).2∧Fq g w w':=by
 have C0:Hid (Cur E w g no w s):=Cur.start ok hP
 obtain ⟨s1,e1⟩:∃x,nameS E.zs E.T s=x:=⟨_,rfl⟩
 obtain ⟨t1,et1⟩:∃x,nameT E.zs E.T s=x:=⟨_,rfl⟩
 obtain ⟨Y,hY⟩:∃Y,namesF E.zs E.T (E.T.length+1) s1 [t1]=Y:=⟨_,rfl⟩
 obtain ⟨ys,sy⟩:=Y
 have eN:names E.zs E.T s=(ys,longer sy (decide (50<ys.length))):=by
  unfold names
  rw [e1,et1,hY]
 rw [eN]
 have HM:E.T.length≤6000:=ok.many
 have HY:Hid (namesF E.zs E.T (E.T.length+1) s1 [t1]=(ys,sy)):=hY
 clear hP eN hY
 go_enter Tryz.func60,Tryz.ntmps60
 go_wp2_with (go_at_call 58;refine (C0.out.name et1 e1).mono ?_;rintro e w1 ⟨a1,c1,rfl,hX,hC,hF⟩;have C1:Hid _:=hC;have X1:Hid _:=hX;clear hC hF hX)
 obtain ⟨Q2,hC2,hK2⟩:=C1.out.litT X1.out
 have C2:Hid _:=hC2
 have K2:Hid _:=hK2
 clear hC2 hK2
 go_loopw [3] (fun v wr=>∃(m:Nat) (ts:List (List Int)) (q:Ps) (Q:Nat→Bool) (a:Option Addr) (c:Nat),v=.slice a ts.length c∧Hid (Txts w Q wr (.slice a ts.length c) ts)∧Hid (Cur E w g Q wr q)∧Hid (namesF E.zs E.T m q ts=(ys,sy)∧E.T.length-q.at_<m∧ts.length≤q.at_+1)) (fun _ wr=>msW E.T g wr)
 case atStart=>exact ⟨E.T.length+1,[t1],s1,Q2,_,_,rfl,K2,C2,⟨HY.out,by omega,by simp⟩⟩
 case round =>
  obtain ⟨m,ts,q,Q,a,c,rfl,K3,C3,H3⟩:=hrel
  obtain ⟨hpz,hnd,hkl⟩:=H3.out
  have hms:=C3.out.ms
  have hq6:=C3.out.le
  cases m with
  |zero=>omega
  |succ m =>
   unfold namesF at hpz
   by_cases h:isP E.zs E.T q {data:=#[44]}=true
   ·rw [if_pos h] at hpz
    have gb:=is_bad h
    obtain ⟨q1,e1⟩:∃x,got E.zs E.T q {data:=#[44]}=x:=⟨_,rfl⟩
    have gg:q1.at_=q.at_+1∧q1.bad=q.bad:=by rw [← e1];exact got_yes h
    rw [e1] at hpz
    obtain ⟨q2,e2⟩:∃x,nameS E.zs E.T q1=x:=⟨_,rfl⟩
    obtain ⟨t2,et2⟩:∃x,nameT E.zs E.T q1=x:=⟨_,rfl⟩
    have ga:q1.at_≤q2.at_:=by rw [← e2];exact name_at _ _ _
    rw [e2,et2] at hpz
    have HN:Hid (namesF E.zs E.T m q2 (ts++[t2])=(ys,sy)∧E.T.length-q2.at_<m∧(ts++[t2]).length≤q2.at_+1∧q.at_<q2.at_):=⟨hpz,by omega,by simp;omega,by omega⟩
    have hl9:ts.length≤6001:=by omega
    clear hpz gg gb ga hnd H3
    go_wp2_with (first
     |(at_builtin;refine wpList_text rfl _ _ rfl C5.out _ rfl rfl rfl K5.out rfl X5.out (by omega) ?_;intro a6 c6 w6 Q6 hK hC;have C6:Hid _:=hC;have K6:Hid _:=hK;clear hC hK)
     |(go_at_call 58;refine (C4.out.name et2 e2).mono ?_;rintro e w5 ⟨a5,c5,rfl,hX,hC,hF⟩;have C5:Hid _:=hC;have X5:Hid _:=hX;have K5:Hid _:=C4.out.txts hF K4.out;clear hC hF hX)
     |(go_at_call 28;refine (C3.out.got h e1).mono ?_;rintro e w4 ⟨rfl,hC,hF⟩;have C4:Hid _:=hC;have K4:Hid _:=C3.out.txts hF K3.out;clear hC hF))
    go_roundw
    case rel=>exact ⟨m,ts++[t2],q2,Q6,a6,c6,by rw [List.length_append];rfl,by rw [List.length_append];exact K6,C6,⟨HN.out.1,HN.out.2.1,HN.out.2.2.1⟩⟩
    case measure =>
     have:=C6.out.ms
     have:=C6.out.le
     have:=HN.out.2.2.2
     have:=ms_lt (T:=E.T) (s:=q) (s':=q2) (by omega) (by omega)
     omega
   ·rw [if_neg h] at hpz
    injection hpz with e1 e3
    subst e1 e3
    have hl9:ts.length≤6001:=by omega
    clear hnd H3
    have hl:q.long=true∨q.long=false:=by cases q.long <;> simp
    have FIN:Hid (∀(w5:World) (b:Bool),Cur E w g Q w5 q→Txts w Q w5 (.slice a ts.length c) ts→b=(q.long || decide (50<ts.length))→∃a' c',Ending.returned (.slice a ts.length c)=.returned (.slice a' ts.length c')∧RdVV (veil (tk.lt w.heap.size) (w5.setCell ⟨g,4,none⟩ (.bool b))) (.slice a' ts.length c') ts∧E.pp (w5.setCell ⟨g,4,none⟩ (.bool b)) g (longer q (decide (50<ts.length)))∧Fq g w (w5.setCell ⟨g,4,none⟩ (.bool b))):=fun w5 b hC hK hb=>by
     obtain ⟨h1,h2⟩:=hC.setLong b
     refine ⟨a,c,rfl,txts_rdvv (hC.txts h2 hK) (by omega),?_,h1.fq⟩
     have:=h1.pp
     rw [hb] at this ⊢
     exact this
    rcases hl with hl|hl
    ·go_wp2_with (go_at_call 28;refine (C3.out.got (bool_no h) (got_no h)).mono ?_;rintro e w4 ⟨rfl,hC,hF⟩;have C4:Hid _:=hC;have K4:Hid _:=C3.out.txts hF K3.out;have d4:=C4.out.c4;have f4:=C4.out.free 4;rw [hl] at d4;clear hC hF)
     go_returns
     exact FIN.out _ _ C4.out K4.out (by rw [hl];simp)
    ·go_wp2_with (go_at_call 28;refine (C3.out.got (bool_no h) (got_no h)).mono ?_;rintro e w4 ⟨rfl,hC,hF⟩;have C4:Hid _:=hC;have K4:Hid _:=C3.out.txts hF K3.out;have d4:=C4.out.c4;have f4:=C4.out.free 4;rw [hl] at d4;clear hC hF)
     go_returns
     exact FIN.out _ _ C4.out K4.out (by rw [hl,Bool.false_or];exact decide_eq_decide.2 (by omega))
theorem Cur.names {E:En} {Q:Nat→Bool} {w W:World} {g:Nat} {s s':Ps} {ts:List (List Int)} (C:Cur E w g Q W s) (h:ps.names E.zs E.T s=(ts,s')) :
  Calls Tryz.prog 60 #[.pointer (some ⟨g,0,none⟩)] W fun e w'=>∃a c,e=.returned (.slice a ts.length c)∧RdVV (veil (hd w Q) w') (.slice a ts.length c) ts∧Cur E w g Q w' s'∧Fq g W w' :=
 (l3names_any C.ok C.pp).mono (by
  rintro e w' ⟨a,c,rfl,hR,hP,hF⟩
  rw [h] at hR hP ⊢
  exact ⟨a,c,rfl,RdVV.less hR (fun b hb=>C.less hb),C.to hF hP,hF⟩)
section
variable {E:En} {Q Q':Nat→Bool} {w W W':World} {g b:Nat} {s s':Ps} {xs:List Value}
def NB (w:World) (Q:Nat→Bool) (W:World) (b:Nat) (xs:List Value):Prop:=tk.Lone 61 5 W b xs∧Q b=true∧w.heap.size≤b
theorem Cur.nb (C:Cur E w g Q W s) (hF:Fq g W W') (h:NB w Q W b xs):NB w Q W' b xs:=by
 refine ⟨own_far h.1 (fun b' e=>?_),h.2⟩
 cases e
 have:=C.hg
 have:=h.2.2
 exact hF.keep b (heap_lt h.1.back) (by omega)
theorem Cur.newNb (C:Cur E w g Q W s) (hl:xs.length=5):∃Q',Cur E w g Q' (W.alloc (.cells xs.toArray 61)) s∧NB w Q' (W.alloc (.cells xs.toArray 61)) W.heap.size xs∧Mv w Q W Q' (W.alloc (.cells xs.toArray 61)):=by
 obtain ⟨h1,h2⟩:=C.grow (v:=.slice (some ⟨W.heap.size,0,none⟩) 1 1) (bel_alloc W (.cells xs.toArray 61)) (World.grownBy.refl _ none) (fun b e=>by cases e) (fun b e=>by
  cases e
  exact ⟨by simp,.inr (Nat.le_refl _)⟩)
 exact ⟨_,h1,⟨tk.Lone.of (heap_alloc_new _ _) hl,by simp [qn,Value.ownBlock],C.sz⟩,h2⟩
theorem Cur.setNb (C:Cur E w g Q W s) (h:NB w Q W b xs) (j:Nat) (u:Value):Cur E w g Q (W.setCell ⟨b,j,none⟩ u) s∧NB w Q (W.setCell ⟨b,j,none⟩ u) b (xs.set j u)∧Up (hd w Q) W (W.setCell ⟨b,j,none⟩ u):=by
 have hg:=C.hg
 have hb:=h.2.2
 have hk:∀b',b'≠b→(W.setCell ⟨b,j,none⟩ u).heap[b']?=W.heap[b']?:=fun b' hne=>Below.heap_setCell W ⟨b,j,none⟩ u b' hne
 have hB:Below w.heap.size W (W.setCell ⟨b,j,none⟩ u):=(Below.refl _ _).setCell (p:=⟨b,j,none⟩) hb _
 have hP:E.pp (W.setCell ⟨b,j,none⟩ u) g s:=by
  obtain ⟨p1,p2,p3,p4⟩:=C.pp
  exact ⟨p1.trans (hB.mono (by omega)),p2,own_far p3 (fun b' e=>by cases e;exact hk g (by omega)),p4⟩
 refine ⟨⟨C.ok,hP,⟨C.fq.below.trans (hB.mono (by omega)),fun b' hl e1=>(hk b' (by omega)).trans (C.fq.keep b' hl e1)⟩,C.hg,fun b' h'=>⟨(C.hq b' h').1,Nat.lt_of_lt_of_le (C.hq b' h').2 hB.size⟩⟩,⟨h.1.set j u,h.2⟩,⟨hB.size,fun b' hv _=>hk b' (fun e=>?_)⟩⟩
 subst e
 simp [hd,h.2.1] at hv
theorem inLoop_any {l:List Nd} (ok:E.ok) (D:Nods E 13 ag1 {s with loop:=true} l s'):Nods E 62 ag1 s l {s' with loop:=s.loop}:=fun w g hP=>by
 have C0:Hid (Cur E w g no w s):=Cur.start ok hP
 have HD:Hid _:=D
 have d5:=C0.out.c5
 have f5:=C0.out.free 5
 have C1:Hid (Cur E w g no (w.setCell ⟨g,5,none⟩ (.bool true)) {s with loop:=true}):=(C0.out.setLoop true).1
 clear hP D
 unfold ag1
 go_enter Tryz.func62,Tryz.ntmps62
 go_wp2_with (go_at_call 13;refine (C1.out.call HD.out).mono ?_;rintro e w2 ⟨a2,c2,rfl,hX,hC,hF⟩;have C2:Hid _:=hC;have X2:Hid _:=hX;have e5:=C2.out.c5;have p5:=C2.out.free 5;clear hC hF hX)
 go_returns
 obtain ⟨h1,h2⟩:=C2.out.setLoop s.loop
 exact h1.done (C2.out.fn h2 X2.out) rfl
end
theorem fun_next {E:En} (ok:E.ok) {f:Nat} (A:Al E f) (s:Ps) (hn0:need E.T 8 s≤f+1):∃l c s',Rs E (f+1) 8 0 s [l] c s'∧Nods E 59 ag1 s l s':=by
 have hn:(0≤s.bad∧3≤f+1)∨(s.bad<0∧20*(E.T.length-s.at_)+3≤f+1):=nx hn0 rfl rfl
 obtain ⟨s1,e1⟩:∃x,want E.zs E.T s {data:=#[40]}=x:=⟨_,rfl⟩
 have g1:(s1.at_=s.at_+1∧s.at_<E.T.length∧s.bad<0∧s1.bad=s.bad)∨(s1.at_=s.at_∧0≤s1.bad):=by rw [← e1];exact want_f _ _ _ _
 by_cases h1:isP E.zs E.T s1 {data:=#[41]}=true
 ·obtain ⟨s3,e3⟩:∃x,want E.zs E.T s1 {data:=#[41]}=x:=⟨_,rfl⟩
  have g3:(s3.at_=s1.at_+1∧s1.at_<E.T.length∧s1.bad<0∧s3.bad=s1.bad)∨(s3.at_=s1.at_∧0≤s3.bad):=by rw [← e3];exact want_f _ _ _ _
  obtain ⟨l4,c4,s4,R4,D4⟩:=A.blk {s3 with loop:=false} (by have nn:(0≤s3.bad∧need E.T 11 {s3 with loop:=false}=2)∨(s3.bad<0∧need E.T 11 {s3 with loop:=false}=20*(E.T.length-s3.at_)+11):=need_or E.T 11 {s3 with loop:=false};omega)
  obtain ⟨s5,e5⟩:∃x,want E.zs E.T {s4 with loop:=s3.loop} {data:=#[101,110,100]}=x:=⟨_,rfl⟩
  refine ⟨tk.node ⟨19,0,[],[],0⟩ [l4],0,s5,rs_of (by decide) hn0 (by rw [pz_8];unfold pB8;dsimp only;rw [e1];simp only [if_pos h1];rw [e3,R4.1];dsimp only;rw [e5]) (by decide),fun w g hP=>?_⟩
  have C0:Hid (Cur E w g no w s):=Cur.start ok hP
  have HD4:Hid _:=D4
  have HR4:Hid _:=R4
  obtain ⟨Q,hC1,hN1,_⟩:=C0.out.newNb (xs:=[.int .i64 19,.int .i64 0,.slice none 0 0,.slice none 0 0,.int .i64 0]) rfl
  have C1:Hid _:=hC1
  have N1:Hid _:=hN1
  clear hP hn hn0 g1 g3 D4 R4 A hC1 hN1
  unfold ag1
  go_enter Tryz.func59,Tryz.ntmps59
  go_wp2_with (first
   |(go_at_call 31;refine (C6.out.nodeL (nd:=⟨19,0,[],[],0⟩) (kr_one X6.out) rfl (rdV_nil _) (rdVV_nil _) (by have:=tot_le HR4.out C5.out;omega) (by simp)).mono ?_;rintro e w7 ⟨a7,c7,rfl,hX,hC,hF⟩;have C7:Hid _:=hC;have X7:Hid _:=hX;clear hC hX hF)
   |(go_at_call 61;refine ((C5.out.setLoop s3.loop).1.want e5).mono ?_;rintro e w6 ⟨⟨v6,rfl⟩,hC,hF⟩;have C6:Hid _:=hC;have X6:Hid _:=(C5.out.setLoop s3.loop).1.fn hF (C5.out.fn (C5.out.setLoop s3.loop).2 X5.out);have N6:Hid _:=(C5.out.setLoop s3.loop).1.nb hF (C5.out.nb (C5.out.setLoop s3.loop).2 N5.out);have y0:w6.cell? ⟨w.heap.size,0,none⟩=some (.int .i64 19):=N6.out.1.at (j:=0) (by omega);have y1:w6.cell? ⟨w.heap.size,1,none⟩=some (.int .i64 0):=N6.out.1.at (j:=1) (by omega);have y2:w6.cell? ⟨w.heap.size,2,none⟩=some (.slice none 0 0):=N6.out.1.at (j:=2) (by omega);have y3:w6.cell? ⟨w.heap.size,3,none⟩=some (.slice none 0 0):=N6.out.1.at (j:=3) (by omega);have y4:w6.cell? ⟨w.heap.size,4,none⟩=some (.int .i64 0):=N6.out.1.at (j:=4) (by omega);clear hC hF)
   |(go_at_call 13;refine ((C4.out.setLoop false).1.call HD4.out).mono ?_;rintro e w5 ⟨a5,c5,rfl,hX,hC,hF⟩;have C5:Hid _:=hC;have X5:Hid _:=hX;have N5:Hid _:=(C4.out.setLoop false).1.nb hF (C4.out.nb (C4.out.setLoop false).2 N4.out);have p5:=C5.out.c5;have q5:=C5.out.free 5;clear hC hF hX)
   |(go_at_call 61;refine (C3.out.want e3).mono ?_;rintro e w4 ⟨⟨v4,rfl⟩,hC,hF⟩;have C4:Hid _:=hC;have N4:Hid _:=C3.out.nb hF N3.out;have p4:=C4.out.c5;have q4:=C4.out.free 5;clear hC hF)
   |(go_at_call 55;refine (C2.out.is h1).mono ?_;rintro e w3 ⟨rfl,hC,hF⟩;have C3:Hid _:=hC;have N3:Hid _:=C2.out.nb hF N2.out;clear hC hF)
   |(go_at_call 61;refine (C1.out.want e1).mono ?_;rintro e w2 ⟨⟨v2,rfl⟩,hC,hF⟩;have C2:Hid _:=hC;have N2:Hid _:=C1.out.nb hF N1.out;clear hC hF))
  go_returns
  exact C7.out.done X7.out rfl
 ·obtain ⟨m2,em2⟩:∃x,names E.zs E.T s1=x:=⟨_,rfl⟩
  obtain ⟨t2,s2⟩:=m2
  have g2:s1.at_≤s2.at_∧(0≤s1.bad→0≤s2.bad):=by have:=names_f E.zs E.T s1;rw [em2] at this;exact this
  obtain ⟨s3,e3⟩:∃x,want E.zs E.T s2 {data:=#[41]}=x:=⟨_,rfl⟩
  have g3:(s3.at_=s2.at_+1∧s2.at_<E.T.length∧s2.bad<0∧s3.bad=s2.bad)∨(s3.at_=s2.at_∧0≤s3.bad):=by rw [← e3];exact want_f _ _ _ _
  obtain ⟨l4,c4,s4,R4,D4⟩:=A.blk {s3 with loop:=false} (by have nn:(0≤s3.bad∧need E.T 11 {s3 with loop:=false}=2)∨(s3.bad<0∧need E.T 11 {s3 with loop:=false}=20*(E.T.length-s3.at_)+11):=need_or E.T 11 {s3 with loop:=false};omega)
  obtain ⟨s5,e5⟩:∃x,want E.zs E.T {s4 with loop:=s3.loop} {data:=#[101,110,100]}=x:=⟨_,rfl⟩
  refine ⟨tk.node ⟨19,0,[],t2,0⟩ [l4],0,s5,rs_of (by decide) hn0 (by rw [pz_8];unfold pB8;dsimp only;rw [e1];simp only [if_neg h1];rw [em2];dsimp only;rw [e3,R4.1];dsimp only;rw [e5]) (by decide),fun w g hP=>?_⟩
  have C0:Hid (Cur E w g no w s):=Cur.start ok hP
  have HD4:Hid _:=D4
  have HR4:Hid _:=R4
  obtain ⟨Q,hC1,hN1,_⟩:=C0.out.newNb (xs:=[.int .i64 19,.int .i64 0,.slice none 0 0,.slice none 0 0,.int .i64 0]) rfl
  have C1:Hid _:=hC1
  have N1:Hid _:=hN1
  clear hP hn hn0 g1 g2 g3 D4 R4 A hC1 hN1
  unfold ag1
  go_enter Tryz.func59,Tryz.ntmps59
  go_wp2_with (first
   |(go_at_call 31;refine (C6.out.nodeL (nd:=⟨19,0,[],t2,0⟩) (kr_one X6.out) rfl (rdV_nil _) M6.out (by have:=tot_le HR4.out C5.out;omega) (by simp)).mono ?_;rintro e w7 ⟨a7,c7,rfl,hX,hC,hF⟩;have C7:Hid _:=hC;have X7:Hid _:=hX;clear hC hX hF)
   |(go_at_call 61;refine ((C5.out.setLoop s3.loop).1.want e5).mono ?_;rintro e w6 ⟨⟨v6,rfl⟩,hC,hF⟩;have C6:Hid _:=hC;have X6:Hid _:=(C5.out.setLoop s3.loop).1.fn hF (C5.out.fn (C5.out.setLoop s3.loop).2 X5.out);have M6:Hid _:=(C5.out.setLoop s3.loop).1.rvv hF (C5.out.rvv (C5.out.setLoop s3.loop).2 M5.out);have N6:Hid _:=(C5.out.setLoop s3.loop).1.nb hF (C5.out.nb (C5.out.setLoop s3.loop).2 N5.out);have y0:w6.cell? ⟨w.heap.size,0,none⟩=some (.int .i64 19):=N6.out.1.at (j:=0) (by omega);have y1:w6.cell? ⟨w.heap.size,1,none⟩=some (.int .i64 0):=N6.out.1.at (j:=1) (by omega);have y2:w6.cell? ⟨w.heap.size,2,none⟩=some (.slice none 0 0):=N6.out.1.at (j:=2) (by omega);have y3:w6.cell? ⟨w.heap.size,3,none⟩=some (.slice am t2.length cm):=N6.out.1.at (j:=3) (by omega);have y4:w6.cell? ⟨w.heap.size,4,none⟩=some (.int .i64 0):=N6.out.1.at (j:=4) (by omega);clear hC hF)
   |(go_at_call 13;refine ((C4.out.setLoop false).1.call HD4.out).mono ?_;rintro e w5 ⟨a5,c5,rfl,hX,hC,hF⟩;have C5:Hid _:=hC;have X5:Hid _:=hX;have M5:Hid _:=(C4.out.setLoop false).1.rvv hF (C4.out.rvv (C4.out.setLoop false).2 M4.out);have N5:Hid _:=(C4.out.setLoop false).1.nb hF (C4.out.nb (C4.out.setLoop false).2 N4.out);have p5:=C5.out.c5;have q5:=C5.out.free 5;clear hC hF hX)
   |(go_at_call 61;refine ((Cn.out.setNb Nn.out 3 (.slice am t2.length cm)).1.want e3).mono ?_;rintro e w4 ⟨⟨v4,rfl⟩,hC,hF⟩;have C4:Hid _:=hC;have N4:Hid _:=(Cn.out.setNb Nn.out 3 (.slice am t2.length cm)).1.nb hF (Cn.out.setNb Nn.out 3 (.slice am t2.length cm)).2.1;have M4:Hid _:=(Cn.out.setNb Nn.out 3 (.slice am t2.length cm)).1.rvv hF (RdVV.up Mn.out (Cn.out.setNb Nn.out 3 (.slice am t2.length cm)).2.2);have p4:=C4.out.c5;have q4:=C4.out.free 5;clear hC hF)
   |(go_at_call 60;refine (C3.out.names em2).mono ?_;rintro e wn ⟨am,cm,rfl,hX,hC,hF⟩;have Cn:Hid _:=hC;have Mn:Hid _:=hX;have Nn:Hid _:=C3.out.nb hF N3.out;have z3:wn.cell? ⟨w.heap.size,3,none⟩=some (.slice none 0 0):=Nn.out.1.at (j:=3) (by omega);have f3:=Nn.out.1.free 3;clear hC hF hX)
   |(go_at_call 55;refine (C2.out.is (bool_no h1)).mono ?_;rintro e w3 ⟨rfl,hC,hF⟩;have C3:Hid _:=hC;have N3:Hid _:=C2.out.nb hF N2.out;clear hC hF)
   |(go_at_call 61;refine (C1.out.want e1).mono ?_;rintro e w2 ⟨⟨v2,rfl⟩,hC,hF⟩;have C2:Hid _:=hC;have N2:Hid _:=C1.out.nb hF N1.out;clear hC hF))
  go_returns
  exact C7.out.done X7.out rfl
end ps
end Go.Proofs.YtkmiagkehcflnaaGreatDoor
