import Derived.Test.YtkmiagkehcflnaaGreatDoorMIpJ
set_option linter.unusedVariables false
set_option linter.unusedSimpArgs false
set_option maxRecDepth 100000
set_option maxHeartbeats 8000000
namespace Go.Proofs.YtkmiagkehcflnaaGreatDoor
namespace ip
open Go.RowKit bts nod lex tk vt
open ps (En Ps isP kindP now wrong want got nameT nameS textOf over up_fq own_far bel_alloc pz need need_or cOk ends names starts named bare longer)
theorem key_at {E:En} {f:Nat} {s:Ps} (hn:isP E.zs E.T s {data:=#[91]}=true→need E.T 0 (got E.zs E.T s {data:=#[91]})≤f):s.at_≤(keyz E.zs E.T f s).2.at_:=by
 unfold keyz
 split
 ·rename_i h
  have h:isP E.zs E.T s {data:=#[91]}=true:=h
  have h1:=(ps.got_yes h).1
  have h2:=(ps.gd_at (ps.pz_gd E.zs E.T f 0 1 [] _ (by decide) (hn h))).1
  have h3:=ps.want_at E.zs E.T (pz E.zs E.T f 0 1 [] (got E.zs E.T s {data:=#[91]})).2.2 {data:=#[93]}
  have h4:=ps.want_at E.zs E.T (want E.zs E.T (pz E.zs E.T f 0 1 [] (got E.zs E.T s {data:=#[91]})).2.2 {data:=#[93]}) {data:=#[61]}
  show _≤(want E.zs E.T _ _).at_
  omega
 ·split
  ·have h1:=ps.name_at E.zs E.T s
   have h2:=ps.want_at E.zs E.T (nameS E.zs E.T s) {data:=#[61]}
   show _≤(want E.zs E.T _ _).at_
   omega
  ·exact Nat.le_refl _
theorem p10 (zs:List Int) (T:List (Int×Nat×Nat)) (m:Nat) (n:Int) (ks:List (List Nd)) {q:Ps} (hq:q.bad<0):pz zs T (m+1) 10 n ks q=if isP zs T q {data:=#[125]} then (ks,n,q) else
  if isP zs T (pz zs T m 0 1 [] (keyz zs T m q).2).2.2 {data:=#[44]} then pz zs T m 10 (if (keyz zs T m q).1.isSome=true then n else n+1) (ks++(keyz zs T m q).1.getD [[⟨14,n+1,[],[],0⟩]]++(pz zs T m 0 1 [] (keyz zs T m q).2).1) (got zs T (pz zs T m 0 1 [] (keyz zs T m q).2).2.2 {data:=#[44]})
  else (ks++(keyz zs T m q).1.getD [[⟨14,n+1,[],[],0⟩]]++(pz zs T m 0 1 [] (keyz zs T m q).2).1,(if (keyz zs T m q).1.isSome=true then n else n+1),(pz zs T m 0 1 [] (keyz zs T m q).2).2.2):=by
 rw [ps.pz_10]
 unfold ps.pB10
 by_cases h1:isP zs T q {data:=#[125]}=true
 ·rw [if_pos (.inr h1),if_pos h1]
 ·rw [if_neg (by intro h;rcases h with h|h;omega;exact h1 h),if_neg h1]
  by_cases h2:named zs T q=true
  ·have hk:kindP T q=1:=by
    unfold ps.named at h2
    simp only [Bool.and_eq_true,decide_eq_true_eq] at h2
    exact h2.1.1
   have h3:isP zs T q {data:=#[91]}=false:=kind_else hk (by decide) (by decide)
   have e:keyz zs T m q=(some [[⟨15,0,nameT zs T q,[],0⟩]],want zs T (nameS zs T q) {data:=#[61]}):=by unfold keyz;rw [h3,h2];rfl
   rw [e,h2]
   rfl
  ·have h2:named zs T q=false:=by simpa using h2
   by_cases h3:isP zs T q {data:=#[91]}=true
   ·have e:keyz zs T m q=(some (pz zs T m 0 1 [] (got zs T q {data:=#[91]})).1,want zs T (want zs T (pz zs T m 0 1 [] (got zs T q {data:=#[91]})).2.2 {data:=#[93]}) {data:=#[61]}):=by unfold keyz;rw [h3];rfl
    rw [e,h2,h3]
    rfl
   ·have h3:isP zs T q {data:=#[91]}=false:=by simpa using h3
    have e:keyz zs T m q=(none,q):=by unfold keyz;rw [h3,h2];rfl
    rw [e,h2,h3]
    rfl
section
variable {E:En} {w W:World} {g m:Nat} {un v x:Value} {nms:List (List Int)} {us:List Value} {ks:List (List Nd)} {s:Ps}
theorem Cz.key (C:Cz E w g un nms v m us ks W s) {f:Nat} (A:Ia E f) (hn:isP E.zs E.T s {data:=#[91]}=true→need E.T 0 (got E.zs E.T s {data:=#[91]})≤f) :
  Calls Tryz.prog 134 #[.pointer (some ⟨g,0,none⟩)] W fun e w'=>((keyz E.zs E.T f s).2.bad<0∧s.at_≤(keyz E.zs E.T f s).2.at_∧(keyz E.zs E.T f s).1=none∧e=.returned .nilIface∧Cz E w g un nms v m us ks w' (keyz E.zs E.T f s).2) ∨
   ((keyz E.zs E.T f s).2.bad<0∧s.at_≤(keyz E.zs E.T f s).2.at_∧∃T gg l,(keyz E.zs E.T f s).1=some [l]∧e=.returned (.iface T (.pointer (some ⟨gg,0,none⟩)))∧Cz E w g un nms v m (us++[.iface T (.pointer (some ⟨gg,0,none⟩))]) (ks++[l]) w' (keyz E.zs E.T f s).2) ∨
   (0≤(keyz E.zs E.T f s).2.bad∧e=.panicked (flt (keyz E.zs E.T f s).2.bad)∧Fq g w w') :=
 (key_any C.ir A s hn W g C.ip).mono (by
  rintro e w' ⟨hF,⟨hb,u,rfl,hv,hP⟩|⟨hb,rfl⟩⟩
  ·cases hk:(keyz E.zs E.T f s).1 with
   |none =>
    rw [hk] at hv
    have hv:u=.nilIface:=hv
    subst hv
    exact .inl ⟨hb,key_at hn,rfl,rfl,C.to hF hP⟩
   |some kk =>
    rw [hk] at hv
    obtain ⟨l,rfl,hv⟩:=hv
    obtain ⟨T,gg,rfl⟩:=hv.isI
    exact .inr (.inl ⟨hb,key_at hn,T,gg,l,rfl,rfl,C.push hF hP hv⟩)
  ·exact .inr (.inr ⟨hb,rfl,C.fq.trans hF⟩))
end
theorem tab_next {E:En} (hI:Ir E) {f:Nat} (A:∀m,m≤f→Ia E m) (s:Ps) (hs:isP E.zs E.T s {data:=#[123]}=true) (hn:need E.T 9 s≤f+1):Nod E 133 ag1 (got E.zs E.T s {data:=#[123]}) (pz E.zs E.T (f+1) 9 0 [] s):=by
 intro w g hP
 have C2:Hid (Cz E w g nil [] nil 0 [] [] w (got E.zs E.T s {data:=#[123]})):=Cz.start hI hP
 have HI:Hid (Ir E):=hI
 have HA:Hid (∀m,m≤f→Ia E m):=A
 have HM:E.T.length≤6000:=hI.many
 have h1:=ps.is_bad hs
 have h2:=ps.got_yes hs
 have hq1:=hP.2.2.2.1
 rw [need_ok _ h1.1] at hn
 simp only [cOk] at hn
 have J:Hid ((pz E.zs E.T (f+1) 9 0 [] s).1=[tk.node ⟨20,0,[],[],0⟩ (pz E.zs E.T f 10 0 [] (got E.zs E.T s {data:=#[123]})).1]∧(pz E.zs E.T (f+1) 9 0 [] s).2.2=want E.zs E.T (pz E.zs E.T f 10 0 [] (got E.zs E.T s {data:=#[123]})).2.2 {data:=#[125]}):=by
  rw [got_want hs]
  exact ⟨rfl,rfl⟩
 have X:Hid (∃m,m≤f∧20*(E.T.length-(got E.zs E.T s {data:=#[123]}).at_)+7≤m∧pz E.zs E.T f 10 0 [] (got E.zs E.T s {data:=#[123]})=pz E.zs E.T m 10 0 [] (got E.zs E.T s {data:=#[123]})):=⟨f,Nat.le_refl _,by omega,rfl⟩
 generalize (pz E.zs E.T (f+1) 9 0 [] s)=r at J ⊢
 generalize got E.zs E.T s {data:=#[123]}=s0 at *
 generalize pz E.zs E.T f 10 0 [] s0=Z at J X
 clear hn hI A hP hs h1 h2 hq1
 unfold ag1
 go_enter Tryz.func133,Tryz.ntmps133
 go_wp2_with fail
 go_loopw [3,4] (fun v3 v4 wr=>∃(m n:Nat) (us:List Value) (ks:List (List Nd)) (q:Ps) (a:Option Addr) (c:Nat) (nn:Nat),v3=.slice a n c∧v4=.int .i64 nn∧Hid (us.length=n)∧Hid (Cz E w g nil [] (.slice a n c) n us ks wr q)∧Hid (m≤f∧20*(E.T.length-q.at_)+7≤m∧Z=pz E.zs E.T m 10 nn ks q)∧n≤2*q.at_∧nn≤n) (fun _ _ wr=>mI E g wr)
 case atStart =>
  obtain ⟨m,h1,h2,h3⟩:=X.out
  exact ⟨m,0,[],[],s0,none,0,0,rfl,rfl,(show ([]:List Value).length=0 from rfl),C2,⟨h1,h2,h3⟩,by omega,by omega⟩
 case round =>
  obtain ⟨m,n,us,ks,q,a,c,nn,rfl,rfl,hu,C,H,hl,hnn⟩:=hrel
  have hms:=mI_eq C.out.ip
  have hq:=C.out.ip.2.2.2.1
  have k0:Hid (q.bad<0):=C.out.ip.2.2.2.2
  obtain ⟨m,rfl⟩:∃m',m=m'+1:=⟨m-1,by have:=H.out;omega⟩
  have K:Hid (20*(E.T.length-q.at_)+7≤m+1∧q.at_≤E.T.length):=⟨H.out.2.1,hq⟩
  clear C2 X
  go_wp2_with (first
   |(go_at_call 81;refine (C.out.sees (by kernel_rfl)).mono ?_;rintro e w1 (⟨hb,rfl,hC⟩|⟨hb,rfl,hC⟩) <;> (replace C:Hid _:=hC) <;> (replace K:Hid (_∧_):=⟨hb,K.out⟩) <;> clear hC hb)
   |(go_at_call 83;refine (C.out.accepts (by kernel_rfl)).mono ?_;rintro e w1 (⟨hb,ha,rfl,hC⟩|⟨hb,rfl,hC⟩) <;> (replace C:Hid _:=hC) <;> (first|replace K:Hid (_∧_∧_):=⟨hb,ha,K.out⟩|replace K:Hid (_∧_):=⟨hb,K.out⟩) <;> clear hC hb)
   |(go_at_call 134;refine (C.out.key (HA.out m (by have:=H.out.1;omega)) (fun h=>by have h1:=ps.got_yes h;have h2:=ps.is_bad h;have k:=K.out;rw [need_ok _ (by omega)];simp only [cOk];omega)).mono ?_;rintro e w1 (⟨hb,ha,hk,rfl,hC⟩|⟨hb,ha,T1,g1,l1,hk,rfl,hC⟩|⟨hb,rfl,hF⟩);rotate_left;rotate_left;exact ⟨rfl,dead hF hb (by have k:=K.out;rw [J.out.2,H.out.2.2,p10 _ _ _ _ _ k0.out];simp (maxDischargeDepth:=20) only [k,is_off,want_bd,pz_off,hb,if_true,if_false,Bool.false_eq_true,Option.getD_none,Option.getD_some,Option.isSome_none,Option.isSome_some])⟩;all_goals (replace C:Hid _:=hC;replace K:Hid (_∧_∧_∧_):=⟨hb,ha,hk,K.out⟩;clear hC hb ha hk))
   |(go_at_call 105;refine (C.out.cal (by decide) (expr_any HI.out (HA.out m (by have:=H.out.1;omega)) _) (by have k:=K.out;have c:=C.out.ip.2.2.2;rw [need_ok _ c.2];simp only [cOk];omega)).mono ?_;rintro e w1 (⟨hb,ha,T2,g2,l2,rfl,hl2,hC⟩|⟨hb,rfl,hF⟩);rotate_left;exact ⟨rfl,dead hF hb (by have k:=K.out;rw [J.out.2,H.out.2.2,p10 _ _ _ _ _ k0.out];simp (maxDischargeDepth:=20) only [k,is_off,want_bd,pz_off,hb,if_true,if_false,Bool.false_eq_true,Option.getD_none,Option.getD_some,Option.isSome_none,Option.isSome_some])⟩;simp only [List.append_assoc,List.cons_append,List.nil_append] at hC;replace C:Hid _:=hC;replace K:Hid (_∧_∧_∧_):=⟨hb,ha,hl2,K.out⟩;clear hC hb ha hl2)
   |(at_builtin;refine wpList_row (m2:=2) rfl _ _ rfl us [_,_] C.out hu.out rfl rfl rfl rfl (by omega) ?_;intro a' c' w' hC;replace C:Hid _:=hC;clear hC)
   |(go_at_call 106;refine (C.out.expect (by kernel_rfl)).mono ?_;rintro e w1 (⟨hb,ha,⟨u,rfl⟩,hC⟩|⟨hb,rfl,hF⟩);rotate_left;exact ⟨rfl,dead hF hb (by have k:=K.out;rw [J.out.2,H.out.2.2,p10 _ _ _ _ _ k0.out];simp (maxDischargeDepth:=20) only [k,is_off,want_bd,pz_off,hb,if_true,if_false,Bool.false_eq_true,Option.getD_none,Option.getD_some,Option.isSome_none,Option.isSome_some])⟩;replace C:Hid _:=hC;replace K:Hid (_∧_∧_):=⟨hb,ha,K.out⟩;have FIN:Hid True:=trivial;clear hC hb ha)
   |(go_at_call 84;first
    |(have z:=FIN.out;clear z;refine (C.out.foldR (by first|exact hu.out|(rw [List.length_append,hu.out];rfl)) (by omega) (by decide) (by decide) (by decide)).mono ?_;rintro e w1 ⟨T1,g1,rfl,hC,hF⟩;replace C:Hid _:=hC;clear hC hF)
    |(refine (C.out.leaf0 (by decide) ⟨by omega,by omega⟩).mono ?_;rintro e w1 ⟨T1,g1,rfl,hC⟩;replace C:Hid _:=hC;clear hC)))
  ·go_returns
   have e:Z=(ks,(nn:Int),q):=by have k:=K.out;rw [H.out.2.2,p10 _ _ _ _ _ k0.out];simp only [k,if_true,if_false,Bool.false_eq_true,Option.getD_none,Option.getD_some,Option.isSome_none,Option.isSome_some,List.append_assoc,List.cons_append,List.nil_append]
   exact C.out.done (by rw [J.out.1,e]) (by rw [J.out.2,e])
  ·have k:=K.out
   have k2:=C.out.ip.2.2.2.1
   have k3:=mI_eq C.out.ip
   refine ⟨⟨m,n+2,us++[_,_],ks++[[⟨14,(nn:Int)+1,[],[],0⟩],l2],_,a',c',nn+1,rfl,by first|rfl|go_num,?_,C,⟨by have:=H.out.1;omega,by omega,?_⟩,by omega,by omega⟩,by omega⟩
   ·show (us++[_,_]).length=_
    rw [List.length_append,hu.out]
    rfl
   ·have k:=K.out
    rw [H.out.2.2,p10 _ _ _ _ _ k0.out]
    simp only [k,if_true,if_false,Bool.false_eq_true,Option.getD_none,Option.getD_some,Option.isSome_none,Option.isSome_some,List.append_assoc,List.cons_append,List.nil_append] <;> rfl
  ·go_returns
   have e:Z=(ks++[[⟨14,(nn:Int)+1,[],[],0⟩],l2],(nn:Int)+1,(pz E.zs E.T m 0 1 [] (keyz E.zs E.T m q).2).2.2):=by have k:=K.out;rw [H.out.2.2,p10 _ _ _ _ _ k0.out];simp only [k,if_true,if_false,Bool.false_eq_true,Option.getD_none,Option.getD_some,Option.isSome_none,Option.isSome_some,List.append_assoc,List.cons_append,List.nil_append]
   exact C.out.done (by rw [J.out.1,e]) (by rw [J.out.2,e])
  ·have k:=K.out
   have k2:=C.out.ip.2.2.2.1
   have k3:=mI_eq C.out.ip
   refine ⟨⟨m,n+2,us++[_,_],ks++[l1,l2],_,a',c',nn,rfl,by first|rfl|go_num,?_,C,⟨by have:=H.out.1;omega,by omega,?_⟩,by omega,by omega⟩,by omega⟩
   ·show (us++[_,_]).length=_
    rw [List.length_append,hu.out]
    rfl
   ·have k:=K.out
    rw [H.out.2.2,p10 _ _ _ _ _ k0.out]
    simp only [k,if_true,if_false,Bool.false_eq_true,Option.getD_none,Option.getD_some,Option.isSome_none,Option.isSome_some,List.append_assoc,List.cons_append,List.nil_append] <;> rfl
  ·go_returns
   have e:Z=(ks++[l1,l2],(nn:Int),(pz E.zs E.T m 0 1 [] (keyz E.zs E.T m q).2).2.2):=by have k:=K.out;rw [H.out.2.2,p10 _ _ _ _ _ k0.out];simp only [k,if_true,if_false,Bool.false_eq_true,Option.getD_none,Option.getD_some,Option.isSome_none,Option.isSome_some,List.append_assoc,List.cons_append,List.nil_append]
   exact C.out.done (by rw [J.out.1,e]) (by rw [J.out.2,e])
end ip
namespace ip
open Go.RowKit bts nod lex tk vt
open ps (En Ps isP kindP now wrong want got nameT nameS textOf over up_fq own_far bel_alloc pz need need_or cOk ends names starts named bare longer)
section
variable (zs:List Int) (T:List (Int×Nat×Nat)) (f:Nat) (s:Ps)
def vals:List (List Nd)×Ps:=if isP zs T s {data:=#[61]} then ((pz zs T f 6 0 [] (got zs T s {data:=#[61]})).1,(pz zs T f 6 0 [] (got zs T s {data:=#[61]})).2.2) else ([],s)
def locz:List (List Nd)×Int×Ps :=
 if isP zs T s {data:=#[102,117,110,99,116,105,111,110]} then ([tk.node ⟨26,0,[],[nameT zs T (got zs T s {data:=#[102,117,110,99,116,105,111,110]})],0⟩ (pz zs T f 8 0 [] (nameS zs T (got zs T s {data:=#[102,117,110,99,116,105,111,110]}))).1],0,(pz zs T f 8 0 [] (nameS zs T (got zs T s {data:=#[102,117,110,99,116,105,111,110]}))).2.2)
 else ([tk.node ⟨1,0,[],(names zs T s).1,0⟩ (vals zs T f (names zs T s).2).1],0,(vals zs T f (names zs T s).2).2)
def thr:List (List Nd)×Ps:=if isP zs T s {data:=#[44]} then ((pz zs T f 0 1 [] (got zs T s {data:=#[44]})).1,(pz zs T f 0 1 [] (got zs T s {data:=#[44]})).2.2) else ([],s)
def forA:List (List Nd)×Int×Ps:=pz zs T f 0 1 [] (want zs T (nameS zs T s) {data:=#[61]})
def forB:List (List Nd)×Int×Ps:=pz zs T f 0 1 [] (want zs T (forA zs T f s).2.2 {data:=#[44]})
def forD:Ps:=want zs T (thr zs T f (forB zs T f s).2.2).2 {data:=#[100,111]}
def forz:List (List Nd)×Int×Ps :=
 ([tk.node ⟨7,0,[],[nameT zs T s],0⟩ ((forA zs T f s).1++(forB zs T f s).1++(thr zs T f (forB zs T f s).2.2).1++(pz zs T f 11 0 [] (sl (forD zs T f s) true)).1)],0,want zs T (sl (pz zs T f 11 0 [] (sl (forD zs T f s) true)).2.2 (forD zs T f s).loop) {data:=#[101,110,100]})
end
theorem vals_off {zs:List Int} {T:List (Int×Nat×Nat)} {f:Nat} {s:Ps} (h:0≤s.bad):(vals zs T f s).2.bad=s.bad:=by unfold vals;rw [is_off h];rfl
theorem local_any {E:En} (hI:Ir E) {f:Nat} (A:Ia E f) (s:Ps) (hn:20*(E.T.length-s.at_)+7≤f):Nod E 103 ag1 s (locz E.zs E.T f s):=by
 intro w g hP
 have C:Hid (Cz E w g nil [] nil 0 [] [] w s):=Cz.start hI hP
 have K:Hid (s.at_≤E.T.length∧s.bad<0∧20*(E.T.length-s.at_)+7≤f):=⟨hP.2.2.2.1,hP.2.2.2.2,hn⟩
 have HA:Hid (Ia E f):=A
 have HI:Hid (Ir E):=hI
 have HM:E.T.length≤6000:=hI.many
 clear hn hI A hP
 unfold ag1
 go_enter Tryz.func103,Tryz.ntmps103
 go_wp2_with (first
  |(go_at_call 83;refine (C.out.accepts (by kernel_rfl)).mono ?_;rintro e w1 (⟨hb,ha,rfl,hC⟩|⟨hb,rfl,hC⟩) <;> (replace C:Hid _:=hC) <;> (first|replace K:Hid (_∧_∧_):=⟨hb,ha,K.out⟩|replace K:Hid (_∧_):=⟨hb,K.out⟩) <;> clear hC hb)
  |(go_at_call 116;refine (C.out.take).mono ?_;rintro e w1 (⟨hb,ha,hk,a1,c1,rfl,hT,hP,hF⟩|⟨hb,rfl,hF⟩);rotate_left;exact ⟨rfl,dead hF hb (by have k:=K.out;simp (maxDischargeDepth:=20) only [locz,k,is_off,want_bd,names_off,name_bd,pz_off,sl_bad,vals_off,hb,if_true,if_false,Bool.false_eq_true])⟩;(have HL:Hid _:=name1_size HI.out C.out.ip.2.2.2.1);replace C:Hid _:=C.out.name1 hT hP hF;replace K:Hid (_∧_∧_):=⟨hb,ha,K.out⟩;clear hb ha hk hT hP hF)
  |(go_at_call 117;refine (C.out.cal (by decide) (HA.out.fun_ _) (by have k:=K.out;have c:=C.out.ip.2.2.2;rw [need_ok _ c.2];simp only [cOk];omega)).mono ?_;rintro e w1 (⟨hb,ha,T1,g1,l1,rfl,hl,hC⟩|⟨hb,rfl,hF⟩);rotate_left;exact ⟨rfl,dead hF hb (by have k:=K.out;simp (maxDischargeDepth:=20) only [locz,k,is_off,want_bd,names_off,name_bd,pz_off,sl_bad,vals_off,hb,if_true,if_false,Bool.false_eq_true])⟩;simp only [List.nil_append,List.cons_append] at hC;replace C:Hid _:=hC;replace K:Hid (_∧_∧_∧_):=⟨hb,ha,hl,K.out⟩;have LIT:Hid True:=trivial;clear hC hb ha hl)
  |(go_at_call 118;refine (C.out.names).mono ?_;rintro e w1 (⟨hb,ha,a1,c1,rfl,hC⟩|⟨hb,rfl,hF⟩);rotate_left;exact ⟨rfl,dead hF hb (by have k:=K.out;simp (maxDischargeDepth:=20) only [locz,vals,k,is_off,want_bd,names_off,name_bd,pz_off,sl_bad,vals_off,hb,if_true,if_false,Bool.false_eq_true])⟩;replace C:Hid _:=hC;replace K:Hid (_∧_∧_):=⟨hb,ha,K.out⟩;have HL:Hid (sizeSS (ps.names E.zs E.T s).1≤1048576):=(Nat.le_trans (names_size C.out.ir K.out.2.2.2.1 K.out.1).1 (by decide));clear hC hb ha)
  |(go_at_call 119;refine (C.out.listR (HA.out.exs _ (by have k:=K.out;have c:=C.out.ip.2.2.2;rw [need_ok _ c.2];simp only [cOk];omega)) (p6_at (by have k:=K.out;have c:=C.out.ip.2.2.2;rw [need_ok _ c.2];simp only [cOk];omega))).mono ?_;rintro e w1 (⟨hb,ha,a1,c1,xs,rfl,hl,hC⟩|⟨hb,rfl,hF⟩);rotate_left;exact ⟨rfl,dead hF hb (by have k:=K.out;simp (maxDischargeDepth:=20) only [locz,vals,k,is_off,want_bd,names_off,name_bd,pz_off,sl_bad,vals_off,hb,if_true,if_false,Bool.false_eq_true])⟩;replace C:Hid _:=hC;have hxl:xs.length≤20000:=(by have:=C.out.ip.2.2.2.1;omega);replace K:Hid (_∧_∧_):=⟨hb,ha,K.out⟩;have FIN:Hid True:=trivial;clear hC hb ha hl)
  |(go_at_call 84;first
   |(have z:=FIN.out;clear z;refine (C.out.foldR rfl (by omega) (by decide) (by decide) HL.out).mono ?_;rintro e w1 ⟨T1,g1,rfl,hC,hF⟩;replace C:Hid _:=hC;clear hC hF)
   |(have z:=LIT.out;clear z;refine (C.out.lit rfl (by simp) (by decide) (by decide) HL.out).mono ?_;rintro e w1 ⟨T1,g1,rfl,hC,hF⟩;replace C:Hid _:=hC;clear hC hF)
   |(refine (C.out.bare (by decide) (by decide) HL.out).mono ?_;rintro e w1 ⟨T1,g1,rfl,hC,hF⟩;replace C:Hid _:=hC;clear hC hF)))
 all_goals
  go_returns
  exact C.out.done (by have k:=K.out;simp only [locz,vals,k,if_true,if_false,Bool.false_eq_true]) (by have k:=K.out;simp only [locz,vals,k,if_true,if_false,Bool.false_eq_true])
theorem count_any {E:En} (hI:Ir E) {f:Nat} (A:Ia E f) (s:Ps) (hn:20*(E.T.length-s.at_)≤f):Nod E 108 ag1 s (forz E.zs E.T f s):=by
 intro w g hP
 have C:Hid (Cz E w g nil [] nil 0 [] [] w s):=Cz.start hI hP
 have K:Hid (s.at_≤E.T.length∧s.bad<0∧20*(E.T.length-s.at_)≤f):=⟨hP.2.2.2.1,hP.2.2.2.2,hn⟩
 have HA:Hid (Ia E f):=A
 have HI:Hid (Ir E):=hI
 have HM:E.T.length≤6000:=hI.many
 clear hn hI A hP
 unfold ag1
 go_enter Tryz.func108,Tryz.ntmps108
 go_wp2_with (first
  |(go_at_call 83;refine (C.out.accepts (by kernel_rfl)).mono ?_;rintro e w1 (⟨hb,ha,rfl,hC⟩|⟨hb,rfl,hC⟩) <;> (replace C:Hid _:=hC) <;> (first|replace K:Hid (_∧_∧_):=⟨hb,ha,K.out⟩|replace K:Hid (_∧_):=⟨hb,K.out⟩) <;> clear hC hb)
  |(go_at_call 116;refine (C.out.take).mono ?_;rintro e w1 (⟨hb,ha,hk,a1,c1,rfl,hT,hP,hF⟩|⟨hb,rfl,hF⟩);rotate_left;exact ⟨rfl,dead hF hb (by have k:=K.out;simp (maxDischargeDepth:=20) only [forz,forD,thr,forB,forA,k,is_off,want_bd,names_off,name_bd,pz_off,sl_bad,vals_off,hb,if_true,if_false,Bool.false_eq_true])⟩;(have HL:Hid _:=name1_size HI.out C.out.ip.2.2.2.1);replace C:Hid _:=C.out.name1 hT hP hF;replace K:Hid (_∧_∧_):=⟨hb,ha,K.out⟩;clear hb ha hk hT hP hF)
  |(go_at_call 106;refine (C.out.expect (by kernel_rfl)).mono ?_;rintro e w1 (⟨hb,ha,⟨u,rfl⟩,hC⟩|⟨hb,rfl,hF⟩);rotate_left;exact ⟨rfl,dead hF hb (by have k:=K.out;simp (maxDischargeDepth:=20) only [forz,forD,thr,forB,forA,k,is_off,want_bd,names_off,name_bd,pz_off,sl_bad,vals_off,hb,if_true,if_false,Bool.false_eq_true])⟩;replace C:Hid _:=hC;replace K:Hid (_∧_∧_):=⟨hb,ha,K.out⟩;clear hC hb ha)
  |(go_at_call 105;refine (C.out.cal (by decide) (expr_any HI.out HA.out _) (by have k:=K.out;have c:=C.out.ip.2.2.2;rw [need_ok _ c.2];simp only [cOk];omega)).mono ?_;rintro e w1 (⟨hb,ha,T1,g1,l1,rfl,hl,hC⟩|⟨hb,rfl,hF⟩);rotate_left;exact ⟨rfl,dead hF hb (by have k:=K.out;simp (maxDischargeDepth:=20) only [forz,forD,thr,forB,forA,k,is_off,want_bd,names_off,name_bd,pz_off,sl_bad,vals_off,hb,if_true,if_false,Bool.false_eq_true])⟩;(try simp only [List.nil_append,List.cons_append] at hC);(first|(have z:=R1.out;clear z;replace C:Hid _:=hC)|(replace C:Hid _:=hC.rowLit1;have R1:Hid True:=trivial));replace K:Hid (_∧_∧_∧_):=⟨hb,ha,hl,K.out⟩;clear hC hb ha hl)
  |(go_at_call 104;refine (C.out.bod C.out.ir HA.out true (by kernel_rfl) (.inl rfl) (by have k:=K.out;have c:=C.out.ip.2.2.2;rw [need_ok _ c.2];simp only [cOk];omega)).mono ?_;rintro e w1 (⟨hb,ha,T1,g1,l1,rfl,hl,hC⟩|⟨hb,rfl,hF⟩);rotate_left;exact ⟨rfl,dead hF hb (by have k:=K.out;simp (maxDischargeDepth:=20) only [forz,forD,thr,forB,forA,k,is_off,want_bd,names_off,name_bd,pz_off,sl_bad,vals_off,hb,if_true,if_false,Bool.false_eq_true])⟩;(try simp only [List.nil_append,List.cons_append] at hC);replace C:Hid _:=hC;replace K:Hid (_∧_∧_∧_):=⟨hb,ha,hl,K.out⟩;clear hC hb ha hl)
  |(at_builtin;first|(have z:=R3.out;clear z;refine wpList_row (m2:=1) rfl _ _ rfl [_,_,_] [_] C.out rfl rfl rfl rfl rfl (by omega) ?_;intro a' c' w' hC;replace C:Hid _:=hC;clear hC)|(have z:=R2.out;clear z;refine wpList_row (m2:=1) rfl _ _ rfl [_,_] [_] C.out rfl rfl rfl rfl rfl (by omega) ?_;intro a' c' w' hC;replace C:Hid _:=hC;have R3:Hid True:=trivial;clear hC)|(refine wpList_row (m2:=1) rfl _ _ rfl [_] [_] C.out rfl rfl rfl rfl rfl (by omega) ?_;intro a' c' w' hC;replace C:Hid _:=hC;have R2:Hid True:=trivial;clear hC))
  |(go_at_call 84;refine (C.out.foldR rfl (by omega) (by decide) (by decide) HL.out).mono ?_;rintro e w1 ⟨T1,g1,rfl,hC,hF⟩;replace C:Hid _:=hC;clear hC hF))
 all_goals
  go_returns
  exact C.out.done (by have k:=K.out;simp only [forz,forD,thr,forB,forA,k,if_true,if_false,Bool.false_eq_true] <;> rfl) (by have k:=K.out;simp only [forz,forD,thr,forB,forA,k,if_true,if_false,Bool.false_eq_true])
end ip
namespace ip
open Go.RowKit bts nod lex tk vt
open ps (En Ps isP kindP now wrong want got nameT nameS textOf over up_fq own_far bel_alloc pz need need_or cOk ends names starts named bare longer)
theorem sl_self (s:Ps):sl s s.loop=s:=rfl
theorem sl_pz {zs:List Int} {T:List (Int×Nat×Nat)} (f:Nat) (s:Ps):sl (pz zs T f 11 0 [] s).2.2 s.loop=(pz zs T f 11 0 [] s).2.2:=by
 have:=pz_loop (zs:=zs) (T:=T) f 11 0 [] s
 unfold sl
 rw [← this]
section
variable {E:En} {w W:World} {g m:Nat} {un v x:Value} {nms:List (List Int)} {us:List Value} {ks:List (List Nd)} {s:Ps}
theorem Cz.blkS (C:Cz E w g un nms v m us ks W s) {f:Nat} (A:Ia E f) {lp:Bool} (hlp:lp=s.loop) (hn:need E.T 11 s≤f) :
  Calls Tryz.prog 41 #[.pointer (some ⟨g,0,none⟩),.bool lp] W fun e w'=>((pz E.zs E.T f 11 0 [] s).2.2.bad<0∧s.at_≤(pz E.zs E.T f 11 0 [] s).2.2.at_∧∃T gg l,e=.returned (.iface T (.pointer (some ⟨gg,0,none⟩)))∧(pz E.zs E.T f 11 0 [] s).1=[l]∧Cz E w g un nms v m (us++[.iface T (.pointer (some ⟨gg,0,none⟩))]) (ks++[l]) w' (pz E.zs E.T f 11 0 [] s).2.2) ∨
   ((0≤(pz E.zs E.T f 11 0 [] s).2.2.bad∨ends E.zs E.T (pz E.zs E.T f 11 0 [] s).2.2=false)∧e=.panicked (flt (wrong E.zs E.T (pz E.zs E.T f 11 0 [] s).2.2).bad)∧Fq g w w'):=by
 subst hlp
 have:=C.blk A s.loop hn
 rw [sl_self,sl_pz] at this
 exact this
theorem blk_w {t:ByteArray} (ht:t={data:=#[101,110,100]}∨t={data:=#[101,108,115,101]}∨t={data:=#[101,108,115,101,105,102]}∨t={data:=#[117,110,116,105,108]}) (h:0≤s.bad∨ends E.zs E.T s=false):(want E.zs E.T s t).bad=(wrong E.zs E.T s).bad:=by
 have:=blk_want (lp:=s.loop) ht h
 rwa [sl_self] at this
end
section
variable (zs:List Int) (T:List (Int×Nat×Nat)) (f:Nat)
def finS (y:Ps):Ps:=want zs T (if isP zs T y {data:=#[101,108,115,101]} then (pz zs T f 11 0 [] (got zs T y {data:=#[101,108,115,101]})).2.2 else y) {data:=#[101,110,100]}
def finK (ks:List (List Nd)) (y:Ps):List (List Nd):=if isP zs T y {data:=#[101,108,115,101]} then ks++(pz zs T f 11 0 [] (got zs T y {data:=#[101,108,115,101]})).1 else ks
def itz (m:Nat) (ks:List (List Nd)) (q:Ps):List (List Nd)×Int×Ps:=pz zs T m 15 0 (ks++(pz zs T m 0 1 [] q).1++(pz zs T m 11 0 [] (want zs T (pz zs T m 0 1 [] q).2.2 {data:=#[116,104,101,110]})).1) (pz zs T m 11 0 [] (want zs T (pz zs T m 0 1 [] q).2.2 {data:=#[116,104,101,110]})).2.2
theorem p14 (n:Int) (ks:List (List Nd)) (s:Ps):pz zs T (f+1) 14 n ks s=([tk.node ⟨6,0,[],[],0⟩ (finK zs T f (itz zs T f [] s).1 (itz zs T f [] s).2.2)],0,finS zs T f (itz zs T f [] s).2.2):=by
 rw [ps.pz_14]
 unfold ps.pB14 finK finS itz
 simp only [List.nil_append]
 split <;> rfl
theorem p15 (n:Int) (ks:List (List Nd)) (q:Ps):pz zs T (f+1) 15 n ks q=if isP zs T q {data:=#[101,108,115,101,105,102]} then itz zs T f ks (got zs T q {data:=#[101,108,115,101,105,102]}) else (ks,0,q):=rfl
end
theorem fin_off {zs:List Int} {T:List (Int×Nat×Nat)} {f:Nat} {y:Ps} (h:0≤y.bad):(finS zs T f y).bad=y.bad:=by
 unfold finS
 rw [is_off h]
 exact want_bd h
theorem it_off {zs:List Int} {T:List (Int×Nat×Nat)} {m:Nat} {ks:List (List Nd)} {q:Ps} (h:0≤(want zs T (pz zs T m 0 1 [] q).2.2 {data:=#[116,104,101,110]}).bad):(itz zs T m ks q).2.2.bad=(want zs T (pz zs T m 0 1 [] q).2.2 {data:=#[116,104,101,110]}).bad:=by
 unfold itz
 rw [pz_off _ _ _ _ _ (by rw [pz_off _ _ _ _ _ h];exact h),pz_off _ _ _ _ _ h]
theorem it_blk {E:En} {f m:Nat} {ks:List (List Nd)} {b:Ps} (hm:1≤m) (h:0≤b.bad∨ends E.zs E.T b=false):(finS E.zs E.T f (pz E.zs E.T m 15 0 ks b).2.2).bad=(wrong E.zs E.T b).bad:=by
 rcases h with h|h
 ·rw [fin_off (by rw [pz_off _ _ _ _ _ h];exact h),pz_off _ _ _ _ _ h,wrong_off h]
 ·obtain ⟨m,rfl⟩:∃m',m=m'+1:=⟨m-1,by omega⟩
  rw [p15,end_no h (.inr (.inr (.inl rfl))),if_neg (by decide)]
  unfold finS
  simp only
  rw [end_no h (.inr (.inl rfl))]
  exact blk_w (.inl rfl) (.inr h)
theorem iff_next {E:En} (hI:Ir E) {f:Nat} (A:∀m,m≤f→Ia E m) (s:Ps) (hn:need E.T 14 s≤f+1):Nod E 107 ag1 s (pz E.zs E.T (f+1) 14 0 [] s):=by
 intro w g hP
 have C2:Hid (Cz E w g nil [] nil 0 [] [] w s):=Cz.start hI hP
 have HI:Hid (Ir E):=hI
 have HA:Hid (∀m,m≤f→Ia E m):=A
 have HM:E.T.length≤6000:=hI.many
 rw [need_ok _ hP.2.2.2.2] at hn
 simp only [cOk] at hn
 have J:Hid ((pz E.zs E.T (f+1) 14 0 [] s).1=[tk.node ⟨6,0,[],[],0⟩ (finK E.zs E.T f (itz E.zs E.T f [] s).1 (itz E.zs E.T f [] s).2.2)]∧(pz E.zs E.T (f+1) 14 0 [] s).2.2=finS E.zs E.T f (itz E.zs E.T f [] s).2.2):=by rw [p14];exact ⟨rfl,rfl⟩
 have X:Hid (∃m,m≤f∧20*(E.T.length-s.at_)+7≤m∧itz E.zs E.T f [] s=itz E.zs E.T m [] s):=⟨f,Nat.le_refl _,by omega,rfl⟩
 have HF:Hid (20*(E.T.length-s.at_)+7≤f):=(by omega:20*(E.T.length-s.at_)+7≤f)
 generalize (pz E.zs E.T (f+1) 14 0 [] s)=r at J ⊢
 generalize itz E.zs E.T f [] s=Z at J X
 clear hn hI A hP
 unfold ag1
 go_enter Tryz.func107,Tryz.ntmps107
 go_wp2_with fail
 go_loopw [3,4] (fun v3 v4 wr=>∃(m n:Nat) (us:List Value) (ks:List (List Nd)) (q:Ps) (a:Option Addr) (c:Nat) (mo:Bool),v3=.slice a n c∧v4=.bool mo∧Hid (us.length=n)∧Hid (Cz E w g nil [] (.slice a n c) n us ks wr q)∧Hid (m≤f∧s.at_≤q.at_∧(mo=true→20*(E.T.length-q.at_)+7≤m∧Z=itz E.zs E.T m ks q)∧(mo=false→Z=(ks,0,q)))∧n≤2*q.at_) (fun _ _ wr=>mI E g wr)
 case atStart =>
  obtain ⟨m,h1,h2,h3⟩:=X.out
  exact ⟨m,0,[],[],s,none,0,true,rfl,rfl,(show ([]:List Value).length=0 from rfl),C2,⟨h1,Nat.le_refl _,fun _=>⟨h2,h3⟩,fun h=>by cases h⟩,by omega⟩
 case round =>
  obtain ⟨m,n,us,ks,q,a,c,mo,rfl,rfl,hu,C,H,hl⟩:=hrel
  have hms:=mI_eq C.out.ip
  have hq:=C.out.ip.2.2.2.1
  have c3:=C.out.ip.c3
  clear C2 X
  cases mo with
  |true =>
   have H2:Hid (m≤f∧20*(E.T.length-q.at_)+7≤m∧Z=itz E.zs E.T m ks q):=⟨H.out.1,(H.out.2.2.1 rfl).1,(H.out.2.2.1 rfl).2⟩
   have K:Hid (20*(E.T.length-q.at_)+7≤m∧q.at_≤E.T.length∧s.at_≤q.at_):=⟨H2.out.2.1,hq,H.out.2.1⟩
   clear H
   go_wp2_with (first
    |(go_at_call 105;refine (C.out.cal (by decide) (expr_any HI.out (HA.out m H2.out.1) _) (by have k:=K.out;have c:=C.out.ip.2.2.2;rw [need_ok _ c.2];simp only [cOk];omega)).mono ?_;rintro e w1 (⟨hb,ha,T1,g1,l1,rfl,hl1,hC⟩|⟨hb,rfl,hF⟩);rotate_left;exact ⟨rfl,dead hF hb (by rw [J.out.2,H2.out.2.2,fin_off (by rw [it_off (by rw [want_bd hb];exact hb),want_bd hb];exact hb),it_off (by rw [want_bd hb];exact hb),want_bd hb])⟩;replace C:Hid _:=hC;replace K:Hid (_∧_∧_∧_):=⟨hb,ha,hl1,K.out⟩;clear hC hb ha hl1)
    |(go_at_call 106;refine (C.out.expect (by kernel_rfl)).mono ?_;rintro e w1 (⟨hb,ha,⟨u,rfl⟩,hC⟩|⟨hb,rfl,hF⟩);rotate_left;exact ⟨rfl,dead hF hb (by rw [J.out.2,H2.out.2.2,fin_off (by rw [it_off hb];exact hb),it_off hb])⟩;replace C:Hid _:=hC;replace K:Hid (_∧_∧_):=⟨hb,ha,K.out⟩;replace c3:=C.out.ip.c3;clear hC hb ha)
    |(go_at_call 41;refine (C.out.blkS (HA.out m H2.out.1) rfl (by have k:=K.out;have c:=C.out.ip.2.2.2;rw [need_ok _ c.2];simp only [cOk];omega)).mono ?_;rintro e w1 (⟨hb,ha,T2,g2,l2,rfl,hl2,hC⟩|⟨hb,rfl,hF⟩);rotate_left;exact ⟨rfl,dead hF wrong_nn (by rw [J.out.2,H2.out.2.2];unfold itz;exact it_blk (by have:=K.out;omega) hb)⟩;simp only [List.append_assoc,List.cons_append,List.nil_append] at hC;replace C:Hid _:=hC;replace K:Hid (_∧_∧_∧_):=⟨hb,ha,hl2,K.out⟩;clear hC hb ha hl2)
    |(at_builtin;refine wpList_row (m2:=2) rfl _ _ rfl us [_,_] C.out hu.out rfl rfl rfl rfl (by omega) ?_;intro a' c' w' hC;replace C:Hid _:=hC;clear hC)
    |(go_at_call 83;refine (C.out.accepts (by kernel_rfl)).mono ?_;rintro e w1 (⟨hb,ha,rfl,hC⟩|⟨hb,rfl,hC⟩) <;> (replace C:Hid _:=hC) <;> (first|replace K:Hid (_∧_∧_):=⟨hb,ha,K.out⟩|replace K:Hid (_∧_):=⟨hb,K.out⟩) <;> clear hC hb))
   ·have k:=K.out
    have k2:=C.out.ip.2.2.2.1
    have k3:=mI_eq C.out.ip
    obtain ⟨m',rfl⟩:∃m',m=m'+1:=⟨m-1,by omega⟩
    refine ⟨⟨m',n+2,us++[_,_],ks++[l1,l2],_,a',c',true,rfl,rfl,?_,C,⟨by have:=H2.out.1;omega,by omega,(fun _=>⟨by omega,?_⟩),(fun h=>by cases h)⟩,by omega⟩,by omega⟩
    ·show (us++[_,_]).length=_
     rw [List.length_append,hu.out]
     rfl
    ·rw [H2.out.2.2]
     show pz E.zs E.T (m'+1) 15 0 _ _=_
     rw [p15]
     simp only [k,if_true,List.append_assoc,List.cons_append,List.nil_append]
   ·have k:=K.out
    have k2:=C.out.ip.2.2.2.1
    have k3:=mI_eq C.out.ip
    obtain ⟨m',rfl⟩:∃m',m=m'+1:=⟨m-1,by omega⟩
    refine ⟨⟨m',n+2,us++[_,_],ks++[l1,l2],_,a',c',false,rfl,rfl,?_,C,⟨by have:=H2.out.1;omega,by omega,(fun h=>by cases h),(fun _=>?_)⟩,by omega⟩,by omega⟩
    ·show (us++[_,_]).length=_
     rw [List.length_append,hu.out]
     rfl
    ·rw [H2.out.2.2]
     show pz E.zs E.T (m'+1) 15 0 _ _=_
     rw [p15]
     simp only [k,if_false,Bool.false_eq_true,List.append_assoc,List.cons_append,List.nil_append]
  |false =>
   have H2:Hid (Z=(ks,0,q)):=H.out.2.2.2 rfl
   have K:Hid (q.at_≤E.T.length∧s.at_≤q.at_∧20*(E.T.length-s.at_)+7≤f):=⟨hq,H.out.2.1,HF.out⟩
   clear H
   go_wp2_with (first
    |(go_at_call 83;refine (C.out.accepts (by kernel_rfl)).mono ?_;rintro e w1 (⟨hb,ha,rfl,hC⟩|⟨hb,rfl,hC⟩) <;> (replace C:Hid _:=hC) <;> (first|replace K:Hid (_∧_∧_):=⟨hb,ha,K.out⟩|replace K:Hid (_∧_):=⟨hb,K.out⟩) <;> (have c3:=C.out.ip.c3) <;> clear hC hb)
    |(go_at_call 41;refine (C.out.blkS (HA.out f (Nat.le_refl _)) rfl (by have k:=K.out;have c:=C.out.ip.2.2.2;rw [need_ok _ c.2];simp only [cOk];omega)).mono ?_;rintro e w1 (⟨hb,ha,T2,g2,l2,rfl,hl2,hC⟩|⟨hb,rfl,hF⟩);rotate_left;exact ⟨rfl,dead hF wrong_nn (by have k:=K.out;rw [J.out.2,H2.out];unfold finS;rw [k.1];exact blk_w (.inl rfl) hb)⟩;replace C:Hid _:=hC;replace K:Hid (_∧_∧_∧_):=⟨hb,ha,hl2,K.out⟩;clear hC hb ha hl2)
    |(at_builtin;refine wpList_row (m2:=1) rfl _ _ rfl us [_] C.out hu.out rfl rfl rfl rfl (by omega) ?_;intro a' c' w' hC;replace C:Hid _:=hC;have R1:Hid True:=trivial;clear hC)
    |(go_at_call 106;refine (C.out.expect (by kernel_rfl)).mono ?_;rintro e w1 (⟨hb,ha,⟨u,rfl⟩,hC⟩|⟨hb,rfl,hF⟩);rotate_left;exact ⟨rfl,dead hF hb (by have k:=K.out;rw [J.out.2,H2.out];unfold finS;simp only [k,if_true,if_false,Bool.false_eq_true])⟩;replace C:Hid _:=hC;replace K:Hid (_∧_∧_):=⟨hb,ha,K.out⟩;clear hC hb ha)
    |(go_at_call 84;first
     |(have z:=R1.out;clear z;refine (C.out.foldR (by rw [List.length_append,hu.out];rfl) (by omega) (by decide) (by decide) (by decide)).mono ?_;rintro e w1 ⟨T1,g1,rfl,hC,hF⟩;replace C:Hid _:=hC;clear hC hF)
     |(refine (C.out.foldR hu.out (by omega) (by decide) (by decide) (by decide)).mono ?_;rintro e w1 ⟨T1,g1,rfl,hC,hF⟩;replace C:Hid _:=hC;clear hC hF)))
   all_goals
    go_returns
    exact C.out.done (by have k:=K.out;rw [J.out.1,H2.out];unfold finK;simp only [k,if_true,if_false,Bool.false_eq_true]) (by have k:=K.out;rw [J.out.2,H2.out];unfold finS;simp only [k,if_true,if_false,Bool.false_eq_true])
end ip
namespace ip
open Go.RowKit bts nod lex tk vt
open ps (En Ps isP kindP now wrong want got nameT nameS textOf over up_fq own_far bel_alloc pz need need_or cOk ends names starts named bare longer)
section
variable (zs:List Int) (T:List (Int×Nat×Nat)) (f:Nat)
def asgW (y:List (List Nd)×Int×Ps):Ps:=want zs T (ps.longer y.2.2 (decide (50<y.1.length))) {data:=#[61]}
def asgS (y:List (List Nd)×Int×Ps):Ps:=if (asgW zs T y).bad<0 then (pz zs T f 6 0 [] (asgW zs T y)).2.2 else asgW zs T y
def asgK (y:List (List Nd)×Int×Ps):List (List Nd):=if (asgW zs T y).bad<0 then y.1++(pz zs T f 6 0 [] (asgW zs T y)).1 else y.1
theorem p16 (n:Int) (ks:List (List Nd)) (s:Ps):pz zs T (f+1) 16 n ks s=if (pz zs T f 4 0 [] s).2.1=99∧¬isP zs T (pz zs T f 4 0 [] s).2.2 {data:=#[61]}∧¬isP zs T (pz zs T f 4 0 [] s).2.2 {data:=#[44]} then ([tk.node ⟨10,0,[],[],0⟩ (pz zs T f 4 0 [] s).1],0,(pz zs T f 4 0 [] s).2.2)
  else ([tk.node ⟨2,((pz zs T f 17 (pz zs T f 4 0 [] s).2.1 (pz zs T f 4 0 [] s).1 (pz zs T f 4 0 [] s).2.2).1.length:Int),[],[],0⟩ (asgK zs T f (pz zs T f 17 (pz zs T f 4 0 [] s).2.1 (pz zs T f 4 0 [] s).1 (pz zs T f 4 0 [] s).2.2))],0,asgS zs T f (pz zs T f 17 (pz zs T f 4 0 [] s).2.1 (pz zs T f 4 0 [] s).1 (pz zs T f 4 0 [] s).2.2)):=by
 rw [ps.pz_16]
 unfold ps.pB16
 dsimp only
 split
 ·rfl
 ·unfold asgK asgS asgW
  split <;> rfl
theorem p17 (n:Int) (ks:List (List Nd)) {q:Ps} (hq:q.bad<0):pz zs T (f+1) 17 n ks q=if n=116∧isP zs T q {data:=#[44]}=true then pz zs T f 17 (pz zs T f 4 0 [] (got zs T q {data:=#[44]})).2.1 (ks++(pz zs T f 4 0 [] (got zs T q {data:=#[44]})).1) (pz zs T f 4 0 [] (got zs T q {data:=#[44]})).2.2
  else if n=116∧isP zs T q {data:=#[61]}=true then (ks,n,q) else (ks,n,wrong zs T q):=by
 rw [ps.pz_17]
 unfold ps.pB17
 rw [if_neg (by omega)]
 have hw:∀t,isP zs T (wrong zs T q) t=false:=fun t=>is_off (ps.wrong_f _ _ _).2
 by_cases hn:n=116
 ·by_cases hc:isP zs T q {data:=#[44]}=true
  ·simp [hn,hc]
  ·by_cases he:isP zs T q {data:=#[61]}=true
   ·simp [hn,hc,he]
   ·simp [hn,hc,he,hw]
 ·simp [hn,hw]
end
theorem asg_off {zs:List Int} {T:List (Int×Nat×Nat)} {f:Nat} {y:List (List Nd)×Int×Ps} (h:0≤y.2.2.bad):(asgS zs T f y).bad=y.2.2.bad:=by
 have:(asgW zs T y).bad=y.2.2.bad:=want_bd (by exact h)
 unfold asgS
 rw [if_neg (by omega)]
 exact this
theorem asg_dead {zs:List Int} {T:List (Int×Nat×Nat)} {f m:Nat} {x:List Nd} {ks:List (List Nd)} {q:Ps} {r Z:List (List Nd)×Int×Ps} (hr:r=([x],0,asgS zs T f Z)) (hZ:Z=pz zs T (m+1) 17 116 ks q) (hq:q.bad<0) (hc:isP zs T q {data:=#[44]}=false) (hb:0≤(want zs T (ps.longer q (decide (50<ks.length))) {data:=#[61]}).bad):r.2.2.bad=(want zs T (ps.longer q (decide (50<ks.length))) {data:=#[61]}).bad:=by
 rw [hr,hZ,p17 _ _ _ _ _ hq,if_neg (by rw [hc];simp)]
 by_cases he:isP zs T q {data:=#[61]}=true
 ·rw [if_pos ⟨rfl,he⟩]
  show (asgS zs T f (ks,116,q)).bad=_
  unfold asgS
  rw [if_neg (by show ¬(want zs T (ps.longer q (decide (50<ks.length))) {data:=#[61]}).bad<0;omega)]
  rfl
 ·rw [if_neg (fun h=>he h.2)]
  have he:isP zs T q {data:=#[61]}=false:=by simpa using he
  have e:isP zs T (ps.longer q (decide (50<ks.length))) {data:=#[61]}=false:=he
  rw [want_no e]
  refine (asg_off (ps.wrong_f _ _ _).2).trans ?_
  show (wrong zs T q).bad=(wrong zs T (ps.longer q (decide (50<ks.length)))).bad
  have h0:¬0≤q.bad:=by omega
  have h1:¬0≤(ps.longer q (decide (50<ks.length))).bad:=h0
  unfold ps.wrong
  rw [if_neg h0,if_neg h1]
  rfl
theorem asg_good {zs:List Int} {T:List (Int×Nat×Nat)} {m:Nat} {ks:List (List Nd)} {q:Ps} {Z:List (List Nd)×Int×Ps} (hZ:Z=pz zs T (m+1) 17 116 ks q) (hq:q.bad<0) (hc:isP zs T q {data:=#[44]}=false) (hb:(want zs T (ps.longer q (decide (50<ks.length))) {data:=#[61]}).bad<0):Z=(ks,116,q):=by
 have he:isP zs T q {data:=#[61]}=true:=by
  cases h:isP zs T q {data:=#[61]} with
  |true=>rfl
  |false =>
   exfalso
   have e:isP zs T (ps.longer q (decide (50<ks.length))) {data:=#[61]}=false:=h
   rw [want_no e] at hb
   have:=(ps.wrong_f zs T (ps.longer q (decide (50<ks.length)))).2
   omega
 rw [hZ,p17 _ _ _ _ _ hq,if_neg (by rw [hc];simp),if_pos ⟨rfl,he⟩]
theorem asg_dead2 {zs:List Int} {T:List (Int×Nat×Nat)} {f m:Nat} {x:List Nd} {ks:List (List Nd)} {q:Ps} {r Z:List (List Nd)×Int×Ps} (hr:r=([x],0,asgS zs T f Z)) (hZ:Z=pz zs T (m+1) 17 116 ks q) (hq:q.bad<0) (hc:isP zs T q {data:=#[44]}=false) (hb:(want zs T (ps.longer q (decide (50<ks.length))) {data:=#[61]}).bad<0):r.2.2.bad=(pz zs T f 6 0 [] (want zs T (ps.longer q (decide (50<ks.length))) {data:=#[61]})).2.2.bad:=by
 rw [hr,asg_good hZ hq hc hb]
 show (asgS zs T f (ks,116,q)).bad=_
 unfold asgS
 rw [if_pos (show (asgW zs T (ks,116,q)).bad<0 from hb)]
 rfl
theorem fm_116 (c:Int):fm c=0↔c=116:=by unfold fm;split;simp [*];split <;> simp [*]
theorem fm_99 (c:Int):fm c=1↔c=99:=by
 unfold fm
 split
 ·rename_i h;simp [h]
 ·split <;> simp [*]
theorem suf_first {zs:List Int} {T:List (Int×Nat×Nat)} {f:Nat} {s:Ps} (hs:s.bad<0) (hf:1≤f):0≤(pz zs T f 4 0 [] s).2.2.bad∨kindP T s=1∨isP zs T s {data:=#[40]}=true:=by
 obtain ⟨f,rfl⟩:∃f',f=f'+1:=⟨f-1,by omega⟩
 by_cases h1:isP zs T s {data:=#[40]}=true
 ·exact .inr (.inr h1)
 ·by_cases h2:kindP T s=1
  ·exact .inr (.inl h2)
  ·left
   have e:(prim zs T f s).2.2=wrong zs T s:=by
    unfold prim
    rw [if_neg h1]
    show nameS zs T s=_
    unfold ps.nameS
    rw [if_neg h2]
   have:0≤(prim zs T f s).2.2.bad:=by rw [e];exact (ps.wrong_f _ _ _).2
   rw [p4,pz_off _ _ _ _ _ this]
   exact this
section
variable {E:En} {w W:World} {g m:Nat} {un v x:Value} {nms:List (List Int)} {us:List Value} {ks:List (List Nd)} {s:Ps}
theorem target_any (C:Cz E w g un nms v m us ks W s) (n:Int):Calls Tryz.prog 122 #[.pointer (some ⟨g,0,none⟩),.int .i64 n] W fun e w'=>(n=0∧(∃u,e=.returned u)∧w'=W)∨(¬n=0∧e=.panicked (flt (wrong E.zs E.T s).bad)∧Fq g w w'):=by
 have HC:Hid (Cz E w g un nms v m us ks W s):=C
 clear C
 by_cases h:n=0
 ·subst h
  go_enter Tryz.func122,Tryz.ntmps122
  go_wp2_with fail
  go_returns
  exact .inl ⟨trivial,⟨_,rfl⟩,rfl⟩
 ·have e:(n != 0)=true:=by simp [h]
  go_enter Tryz.func122,Tryz.ntmps122
  go_wp2_with (go_at_call 43;refine HC.out.fail.mono ?_;rintro e w1 ⟨rfl,hF⟩;exact ⟨rfl,.inr ⟨h,rfl,hF⟩⟩)
end
theorem oth_next {E:En} (hI:Ir E) {f:Nat} (A:∀m,m≤f→Ia E m) (s:Ps) (hn:need E.T 16 s≤f+1) (w:World) (g:Nat) (hP:Ip E w g s):Calls Tryz.prog 110 (ag1 g) w (Po E (pz E.zs E.T (f+1) 16 0 [] s) s g w):=by
 have C:Hid (Cz E w g nil [] nil 0 [] [] w s):=Cz.start hI hP
 have HI:Hid (Ir E):=hI
 have HA:Hid (∀m,m≤f→Ia E m):=A
 have HM:E.T.length≤6000:=hI.many
 have hk0:=hP.2.2.2
 rw [need_ok _ hP.2.2.2.2] at hn
 simp only [cOk] at hn
 have K:Hid (20*(E.T.length-s.at_)+8≤f+1∧s.at_≤E.T.length∧s.bad<0):=⟨hn,hk0.1,hk0.2⟩
 have J:Hid (pz E.zs E.T (f+1) 16 0 [] s=if (pz E.zs E.T f 4 0 [] s).2.1=99∧¬isP E.zs E.T (pz E.zs E.T f 4 0 [] s).2.2 {data:=#[61]}∧¬isP E.zs E.T (pz E.zs E.T f 4 0 [] s).2.2 {data:=#[44]} then ([tk.node ⟨10,0,[],[],0⟩ (pz E.zs E.T f 4 0 [] s).1],0,(pz E.zs E.T f 4 0 [] s).2.2)
  else ([tk.node ⟨2,((pz E.zs E.T f 17 (pz E.zs E.T f 4 0 [] s).2.1 (pz E.zs E.T f 4 0 [] s).1 (pz E.zs E.T f 4 0 [] s).2.2).1.length:Int),[],[],0⟩ (asgK E.zs E.T f (pz E.zs E.T f 17 (pz E.zs E.T f 4 0 [] s).2.1 (pz E.zs E.T f 4 0 [] s).1 (pz E.zs E.T f 4 0 [] s).2.2))],0,asgS E.zs E.T f (pz E.zs E.T f 17 (pz E.zs E.T f 4 0 [] s).2.1 (pz E.zs E.T f 4 0 [] s).1 (pz E.zs E.T f 4 0 [] s).2.2))):=p16 _ _ _ _ _ _
 have HB:Hid (0≤(pz E.zs E.T f 4 0 [] s).2.2.bad→(pz E.zs E.T (f+1) 16 0 [] s).2.2.bad=(pz E.zs E.T f 4 0 [] s).2.2.bad):=fun h=>by
  rw [J.out]
  split
  ·rfl
  ·exact (asg_off (by rw [pz_off _ _ _ _ _ h];exact h)).trans (pz_off _ _ _ _ _ h)
 clear hn hI A hk0 hP
 unfold ag1
 have SUF:Hid (need E.T 4 s≤f):=by have k:=K.out;show _≤_;rw [need_ok _ k.2.2];simp only [cOk];omega
 by_cases h99:(pz E.zs E.T f 4 0 [] s).2.1=99
 ·have hf:fm (pz E.zs E.T f 4 0 [] s).2.1=1:=(fm_99 _).2 h99
  have H99:Hid ((pz E.zs E.T f 4 0 [] s).2.1=99):=h99
  have HS:Hid (0≤(pz E.zs E.T f 4 0 [] s).2.2.bad∨kindP E.T s=1∨isP E.zs E.T s {data:=#[40]}=true):=suf_first K.out.2.2 (by have k:=K.out;omega)
  clear h99
  go_enter Tryz.func110,Tryz.ntmps110
  go_wp2_with (first
   |(go_at_call 121;refine (C.out.suf (HA.out f (Nat.le_refl _)) SUF.out).mono ?_;rintro e w1 (⟨hb,ha,T1,g1,l1,rfl,hl1,hC⟩|⟨hb,rfl,hF⟩);rotate_left;exact ⟨rfl,.inl (dead hF hb (HB.out hb))⟩;simp only [List.nil_append] at hC;replace C:Hid _:=hC;replace K:Hid (_∧_∧_∧_):=⟨hb,ha,hl1,K.out⟩;clear hC hb ha hl1)
   |(go_at_call 84;refine (C.out.lit rfl (by simp) (by decide) (by decide) (by decide)).mono ?_;rintro e w2 ⟨T2,g2,rfl,hC,hF⟩;replace C:Hid _:=hC;clear hC hF))
  go_returns
  have k:=K.out
  by_cases hc:¬isP E.zs E.T (pz E.zs E.T f 4 0 [] s).2.2 {data:=#[61]}∧¬isP E.zs E.T (pz E.zs E.T f 4 0 [] s).2.2 {data:=#[44]}
  ·have e:pz E.zs E.T (f+1) 16 0 [] s=([tk.node ⟨10,0,[],[],0⟩ [l1]],0,(pz E.zs E.T f 4 0 [] s).2.2):=by rw [J.out,if_pos ⟨H99.out,hc⟩,k.2.2.1]
   exact .inl (C.out.done (by rw [e]) (by rw [e]))
  ·have e:(pz E.zs E.T (f+1) 16 0 [] s).2.2.bad=(wrong E.zs E.T (pz E.zs E.T f 4 0 [] s).2.2).bad:=by
    rw [J.out,if_neg (fun h=>hc h.2)]
    obtain ⟨f',rfl⟩:∃f',f=f'+1:=⟨f-1,by omega⟩
    rw [p17 _ _ _ _ _ k.1,H99.out,if_neg (by rintro ⟨h,_⟩;omega),if_neg (by rintro ⟨h,_⟩;omega)]
    exact asg_off wrong_nn
   refine .inr ⟨C.out.fq,?_,_,_,rfl,C.out.ip,k.2.1,pz_loop _ _ _ _ _,by rw [e];exact wrong_nn,e,?_,_,C.out.ret⟩
   ·rcases HS.out with h|h
    ·omega
    ·exact h
   ·by_cases he:isP E.zs E.T (pz E.zs E.T f 4 0 [] s).2.2 {data:=#[61]}=true
    ·exact .inl he
    ·by_cases hm:isP E.zs E.T (pz E.zs E.T f 4 0 [] s).2.2 {data:=#[44]}=true
     ·exact .inr hm
     ·exact absurd ⟨he,hm⟩ hc
 ·have J2:Hid (pz E.zs E.T (f+1) 16 0 [] s=([tk.node ⟨2,((pz E.zs E.T f 17 (pz E.zs E.T f 4 0 [] s).2.1 (pz E.zs E.T f 4 0 [] s).1 (pz E.zs E.T f 4 0 [] s).2.2).1.length:Int),[],[],0⟩ (asgK E.zs E.T f (pz E.zs E.T f 17 (pz E.zs E.T f 4 0 [] s).2.1 (pz E.zs E.T f 4 0 [] s).1 (pz E.zs E.T f 4 0 [] s).2.2))],0,asgS E.zs E.T f (pz E.zs E.T f 17 (pz E.zs E.T f 4 0 [] s).2.1 (pz E.zs E.T f 4 0 [] s).1 (pz E.zs E.T f 4 0 [] s).2.2))):=by show _=_;rw [J.out,if_neg (fun h=>h99 h.1)]
  clear J
  generalize pz E.zs E.T (f+1) 16 0 [] s=r at J2 HB ⊢
  by_cases h116:(pz E.zs E.T f 4 0 [] s).2.1=116
  ·have hf:fm (pz E.zs E.T f 4 0 [] s).2.1=0:=(fm_116 _).2 h116
   rw [h116] at J2
   clear h99 h116
   go_enter Tryz.func110,Tryz.ntmps110
   go_wp2_with (first
    |(go_at_call 121;refine (C.out.suf (HA.out f (Nat.le_refl _)) SUF.out).mono ?_;rintro e w1 (⟨hb,ha,T1,g1,l1,rfl,hl1,hC⟩|⟨hb,rfl,hF⟩);rotate_left;exact ⟨rfl,.inl (dead hF hb (HB.out hb))⟩;simp only [List.nil_append] at hC;replace C:Hid _:=hC;replace K:Hid (_∧_∧_∧_):=⟨hb,ha,hl1,K.out⟩;clear hC hb ha hl1)
    |(go_at_call 122;refine (target_any C.out _).mono ?_;rintro e w2 (⟨_,⟨u,rfl⟩,rfl⟩|⟨hb,rfl,hF⟩);rotate_left;exact absurd rfl hb;have C2:Hid _:=C.out.rowLit1))
   have X:Hid (∃m,m≤f∧20*(E.T.length-(pz E.zs E.T f 4 0 [] s).2.2.at_)+2≤m∧pz E.zs E.T f 17 116 (pz E.zs E.T f 4 0 [] s).1 (pz E.zs E.T f 4 0 [] s).2.2=pz E.zs E.T m 17 116 [l1] (pz E.zs E.T f 4 0 [] s).2.2):=⟨f,Nat.le_refl _,(by have k:=K.out;have c:=C.out.ip.2.2.2;omega),by rw [K.out.2.2.1]⟩
   have H0:Hid (20*(E.T.length-(pz E.zs E.T f 4 0 [] s).2.2.at_)+7≤f):=(by have k:=K.out;have c:=C.out.ip.2.2.2;show _≤_;omega)
   generalize pz E.zs E.T f 17 116 (pz E.zs E.T f 4 0 [] s).1 (pz E.zs E.T f 4 0 [] s).2.2=Z at J2 X
   generalize (pz E.zs E.T f 4 0 [] s).2.2=s0 at *
   clear C K HB SUF
   go_loopw [5] (fun v wr=>∃(m n:Nat) (us:List Value) (ks:List (List Nd)) (q:Ps) (a:Option Addr) (c:Nat),v=.slice a n c∧Hid (us.length=n)∧Hid (Cz E w g nil [] (.slice a n c) n us ks wr q)∧Hid (m≤f∧s0.at_≤q.at_∧20*(E.T.length-q.at_)+2≤m∧Z=pz E.zs E.T m 17 116 ks q)∧n≤q.at_+1) (fun _ wr=>mI E g wr)
   case atStart =>
    obtain ⟨m,h1,h2,h3⟩:=X.out
    exact ⟨m,1,[_],[l1],s0,_,_,rfl,(show ([_]:List Value).length=1 from rfl),C2,⟨h1,Nat.le_refl _,h2,h3⟩,by omega⟩
   case round =>
    obtain ⟨m,n,us,ks,q,a,c,rfl,hu,C,H,hl⟩:=hrel
    have hms:=mI_eq C.out.ip
    have hq:=C.out.ip.2.2.2.1
    have k0:Hid (q.bad<0):=C.out.ip.2.2.2.2
    obtain ⟨m,rfl⟩:∃m',m=m'+1:=⟨m-1,by have:=H.out;omega⟩
    have K:Hid (20*(E.T.length-q.at_)+2≤m+1∧q.at_≤E.T.length∧s0.at_≤q.at_∧20*(E.T.length-s0.at_)+7≤f):=⟨H.out.2.2.1,hq,H.out.2.1,H0.out⟩
    have hkl:Hid (ks.length=n):=by show _=_;rw [← C.out.len];exact hu.out
    clear C2 X
    go_wp2_with (first
     |(go_at_call 83;refine (C.out.accepts (by kernel_rfl)).mono ?_;rintro e w1 (⟨hb,ha,rfl,hC⟩|⟨hb,rfl,hC⟩) <;> (replace C:Hid _:=hC) <;> (first|replace K:Hid (_∧_∧_):=⟨hb,ha,K.out⟩|replace K:Hid (_∧_):=⟨hb,K.out⟩) <;> clear hC hb)
     |(go_at_call 121;refine (C.out.suf (HA.out m (by have:=H.out.1;omega)) (by have k:=K.out;have c:=C.out.ip.2.2.2;rw [need_ok _ c.2];simp only [cOk];omega)).mono ?_;rintro e w1 (⟨hb,ha,T1,g1,l2,rfl,hl1,hC⟩|⟨hb,rfl,hF⟩);rotate_left;exact ⟨rfl,.inl (dead hF hb (by have k:=K.out;rw [J2.out,H.out.2.2.2,p17 _ _ _ _ _ k0.out,if_pos ⟨rfl,k.1⟩];exact (asg_off (by rw [pz_off _ _ _ _ _ hb];exact hb)).trans (pz_off _ _ _ _ _ hb)))⟩;replace C:Hid _:=hC;replace K:Hid (_∧_∧_∧_):=⟨hb,ha,hl1,K.out⟩;clear hC hb ha hl1)
     |(go_at_call 122;refine (target_any C.out _).mono ?_;rintro e w2 (⟨hb,⟨u,rfl⟩,rfl⟩|⟨hb,rfl,hF⟩);rotate_left;exact ⟨rfl,.inl (dead hF wrong_nn (by have k:=K.out;have h6:¬(pz E.zs E.T m 4 0 [] (got E.zs E.T q {data:=#[44]})).2.1=116:=(fun h=>hb ((fm_116 _).2 h));rw [J2.out,H.out.2.2.2,p17 _ _ _ _ _ k0.out,if_pos ⟨rfl,k.2.2.2.1⟩];obtain ⟨m',rfl⟩:∃m',m=m'+1:=⟨m-1,by omega⟩;rw [p17 _ _ _ _ _ k.1,if_neg (fun h=>h6 h.1),if_neg (fun h=>h6 h.1)];exact asg_off wrong_nn))⟩;replace K:Hid (_∧_):=⟨(fm_116 _).1 hb,K.out⟩;clear hb)
     |(at_builtin;first
      |(have z:=O.out;clear z;refine wpList_rows rfl _ _ rfl us xs C.out hu.out O.out rfl rfl (by omega) ?_;intro a' c' w' hC;replace C:Hid _:=hC;clear hC O)
      |(refine wpList_row (m2:=1) rfl _ _ rfl us [_] C.out hu.out rfl rfl rfl rfl (by omega) ?_;intro a' c' w' hC;replace C:Hid _:=hC;clear hC))
     |(go_at_call 106;refine ((C.out.longer (decide (50<ks.length))).expect (by kernel_rfl)).mono ?_;rintro e w1 (⟨hb,ha,⟨u,rfl⟩,hC⟩|⟨hb,rfl,hF⟩);rotate_left;exact ⟨rfl,.inl (dead hF hb (asg_dead J2.out H.out.2.2.2 k0.out K.out.1 hb))⟩;replace C:Hid _:=hC;replace ha:(want E.zs E.T (ps.longer q (decide (50<ks.length))) {data:=#[61]}).at_=q.at_+1:=ha;replace K:Hid (_∧_∧_):=⟨hb,ha,K.out⟩;clear hC hb ha)
     |(go_at_call 119;refine (C.out.list ((HA.out f (Nat.le_refl _)).exs _ (by have k:=K.out;have c:=C.out.ip.2.2.2;rw [need_ok _ c.2];simp only [cOk];omega)) (p6_at (by have k:=K.out;have c:=C.out.ip.2.2.2;rw [need_ok _ c.2];simp only [cOk];omega))).mono ?_;rintro e w1 (⟨hb,ha,a1,c1,xs,rfl,ho,hl1,hC⟩|⟨hb,rfl,hF⟩);rotate_left;exact ⟨rfl,.inl (dead hF hb (asg_dead2 J2.out H.out.2.2.2 k0.out K.out.2.2.1 K.out.1))⟩;replace C:Hid _:=hC;have O:Hid _:=ho;have hxl:xs.length≤20000:=(by have:=C.out.ip.2.2.2.1;omega);replace K:Hid (_∧_∧_):=⟨hb,ha,K.out⟩;clear hC hb ha hl1 ho)
     |(go_at_call 84;refine (C.out.foldR (by rw [List.length_append,hu.out]) (by omega) (by decide) ⟨by omega,by omega⟩ (by decide)).mono ?_;rintro e w2 ⟨T2,g2,rfl,hC,hF⟩;replace C:Hid _:=hC;clear hC hF))
    ·have k:=K.out
     have k2:=C.out.ip.2.2.2.1
     have k3:=mI_eq C.out.ip
     refine ⟨⟨m,n+1,us++[_],ks++[l2],_,a',c',rfl,?_,C,⟨by have:=H.out.1;omega,by omega,by omega,?_⟩,by omega⟩,by omega⟩
     ·show (us++[_]).length=_
      rw [List.length_append,hu.out]
      rfl
     ·rw [H.out.2.2.2,p17 _ _ _ _ _ k0.out,if_pos ⟨rfl,by simp only [k]⟩]
      simp only [k]
    ·go_returns
     have k:=K.out
     have e:=asg_good H.out.2.2.2 k0.out (by simp only [k]) (by simp only [k])
     have e2:asgW E.zs E.T (ks,116,q)=want E.zs E.T (ps.longer q (decide (50<ks.length))) {data:=#[61]}:=rfl
     refine .inl (C.out.done ?_ ?_)
     ·rw [J2.out,e]
      unfold asgK
      rw [e2,if_pos (by simp only [k]),hkl.out]
     ·rw [J2.out,e]
      unfold asgS
      rw [e2,if_pos (by simp only [k])]
  ·have hf:fm (pz E.zs E.T f 4 0 [] s).2.1=2:=by unfold fm;rw [if_neg h116,if_neg h99]
   have H16:Hid (¬(pz E.zs E.T f 4 0 [] s).2.1=116):=h116
   clear h99 h116
   go_enter Tryz.func110,Tryz.ntmps110
   go_wp2_with (first
    |(go_at_call 121;refine (C.out.suf (HA.out f (Nat.le_refl _)) SUF.out).mono ?_;rintro e w1 (⟨hb,ha,T1,g1,l1,rfl,hl1,hC⟩|⟨hb,rfl,hF⟩);rotate_left;exact ⟨rfl,.inl (dead hF hb (HB.out hb))⟩;simp only [List.nil_append] at hC;replace C:Hid _:=hC;replace K:Hid (_∧_∧_∧_):=⟨hb,ha,hl1,K.out⟩;clear hC hb ha hl1)
    |(go_at_call 122;refine (target_any C.out _).mono ?_;rintro e w2 (⟨hb,_⟩|⟨hb,rfl,hF⟩);exact absurd hb (by decide);exact ⟨rfl,.inl (dead hF wrong_nn (by have k:=K.out;rw [J2.out];obtain ⟨f',rfl⟩:∃f',f=f'+1:=⟨f-1,by omega⟩;rw [p17 _ _ _ _ _ k.1,if_neg (fun h=>H16.out h.1),if_neg (fun h=>H16.out h.1)];exact asg_off wrong_nn))⟩))
end ip
namespace ip
open Go.RowKit bts nod lex tk vt
open ps (En Ps isP kindP now wrong want got nameT nameS textOf over up_fq own_far bel_alloc pz need need_or cOk ends names starts named bare longer)
section
variable (zs:List Int) (T:List (Int×Nat×Nat)) (f:Nat)
theorem p13 (n:Int) (ks:List (List Nd)) (s:Ps):pz zs T (f+1) 13 n ks s =
  if isP zs T s {data:=#[108,111,99,97,108]} then locz zs T f (got zs T s {data:=#[108,111,99,97,108]})
  else if isP zs T s {data:=#[100,111]} then ([tk.node ⟨3,0,[],[],0⟩ (pz zs T f 11 0 [] (sl (got zs T s {data:=#[100,111]}) (got zs T s {data:=#[100,111]}).loop)).1],0,want zs T (sl (pz zs T f 11 0 [] (sl (got zs T s {data:=#[100,111]}) (got zs T s {data:=#[100,111]}).loop)).2.2 (got zs T s {data:=#[100,111]}).loop) {data:=#[101,110,100]})
  else if isP zs T s {data:=#[119,104,105,108,101]} then ([tk.node ⟨4,0,[],[],0⟩ ((pz zs T f 0 1 [] (got zs T s {data:=#[119,104,105,108,101]})).1++(pz zs T f 11 0 [] (sl (want zs T (pz zs T f 0 1 [] (got zs T s {data:=#[119,104,105,108,101]})).2.2 {data:=#[100,111]}) true)).1)],0,want zs T (sl (pz zs T f 11 0 [] (sl (want zs T (pz zs T f 0 1 [] (got zs T s {data:=#[119,104,105,108,101]})).2.2 {data:=#[100,111]}) true)).2.2 (want zs T (pz zs T f 0 1 [] (got zs T s {data:=#[119,104,105,108,101]})).2.2 {data:=#[100,111]}).loop) {data:=#[101,110,100]})
  else if isP zs T s {data:=#[114,101,112,101,97,116]} then ([tk.node ⟨5,0,[],[],0⟩ ((pz zs T f 11 0 [] (sl (got zs T s {data:=#[114,101,112,101,97,116]}) true)).1++(pz zs T f 0 1 [] (want zs T (sl (pz zs T f 11 0 [] (sl (got zs T s {data:=#[114,101,112,101,97,116]}) true)).2.2 (got zs T s {data:=#[114,101,112,101,97,116]}).loop) {data:=#[117,110,116,105,108]})).1)],0,(pz zs T f 0 1 [] (want zs T (sl (pz zs T f 11 0 [] (sl (got zs T s {data:=#[114,101,112,101,97,116]}) true)).2.2 (got zs T s {data:=#[114,101,112,101,97,116]}).loop) {data:=#[117,110,116,105,108]})).2.2)
  else if isP zs T s {data:=#[105,102]} then pz zs T f 14 0 [] (got zs T s {data:=#[105,102]})
  else if isP zs T s {data:=#[102,111,114]} then forz zs T f (got zs T s {data:=#[102,111,114]})
  else pz zs T f 16 0 [] s:=by
 rw [ps.pz_13,sl_self,sl_pz]
 unfold ps.pB13
 split
 ·unfold locz vals
  dsimp only
  split
  ·rfl
  ·split <;> rfl
 ·split
  ·rfl
  ·split
   ·rfl
   ·split
    ·rfl
    ·split
     ·rfl
     ·split
      ·unfold forz forD thr forB forA
       dsimp only
       split <;> rfl
      ·rfl
end
theorem lit_ne {zs:List Int} {T:List (Int×Nat×Nat)} {s:Ps} {t t':ByteArray} (h:isP zs T s t=true) (hn:(t.data.toList==t'.data.toList)=false):isP zs T s t'=false:=is_else h (by rw [toList_mk,toList_mk];exact hn)
theorem oth_bad {E:En} {f:Nat} {q:Ps} (hb:q.bad<0) (hf:2≤f) (hk:¬kindP E.T q=1) (hp:isP E.zs E.T q {data:=#[40]}=false):(pz E.zs E.T f 16 0 [] q).2.2.bad=(wrong E.zs E.T q).bad:=by
 obtain ⟨f,rfl⟩:∃f',f=f'+1+1:=⟨f-2,by omega⟩
 have e:(prim E.zs E.T f q).2.2=wrong E.zs E.T q:=by
  unfold prim
  rw [hp]
  show nameS E.zs E.T q=_
  unfold ps.nameS
  rw [if_neg hk]
 have e2:(pz E.zs E.T (f+1) 4 0 [] q).2.2.bad=(wrong E.zs E.T q).bad:=by
  rw [p4,pz_off _ _ _ _ _ (by rw [e];exact wrong_nn),e]
 have h0:0≤(pz E.zs E.T (f+1) 4 0 [] q).2.2.bad:=by rw [e2];exact wrong_nn
 rw [p16]
 split
 ·exact e2
 ·exact ((asg_off (by rw [pz_off _ _ _ _ _ h0];exact h0)).trans (pz_off _ _ _ _ _ h0)).trans e2
theorem sta_bad {E:En} {f:Nat} {q:Ps} {t:ByteArray} (hb:q.bad<0) (hf:3≤f) (h:isP E.zs E.T q t=true) (h1:(t.data.toList==([108,111,99,97,108]:List UInt8))=false) (h2:(t.data.toList==([100,111]:List UInt8))=false) (h3:(t.data.toList==([119,104,105,108,101]:List UInt8))=false) (h4:(t.data.toList==([114,101,112,101,97,116]:List UInt8))=false) (h5:(t.data.toList==([105,102]:List UInt8))=false) (h6:(t.data.toList==([102,111,114]:List UInt8))=false) (h7:(t.data.toList==([40]:List UInt8))=false):(pz E.zs E.T f 13 0 [] q).2.2.bad=(wrong E.zs E.T q).bad:=by
 obtain ⟨f,rfl⟩:∃f',f=f'+1:=⟨f-1,by omega⟩
 rw [p13,lit_ne (t':={data:=#[108,111,99,97,108]}) h h1,lit_ne (t':={data:=#[100,111]}) h h2,lit_ne (t':={data:=#[119,104,105,108,101]}) h h3,lit_ne (t':={data:=#[114,101,112,101,97,116]}) h h4,lit_ne (t':={data:=#[105,102]}) h h5,lit_ne (t':={data:=#[102,111,114]}) h h6]
 exact oth_bad hb (by omega) (by rcases is_kind h with h|h <;> omega) (lit_ne h h7)
theorem starts_is {zs:List Int} {T:List (Int×Nat×Nat)} {s:Ps} (h:starts zs T s=true):isP zs T s {data:=#[59]}=false∧ends zs T s=false:=by
 have fin:over T s=false→isP zs T s {data:=#[59]}=false→isP zs T s {data:=#[101,110,100]}=false→isP zs T s {data:=#[101,108,115,101]}=false→isP zs T s {data:=#[101,108,115,101,105,102]}=false→isP zs T s {data:=#[117,110,116,105,108]}=false→isP zs T s {data:=#[59]}=false∧ends zs T s=false:=fun h0 h1 h2 h3 h4 h5=>⟨h1,by unfold ps.ends;rw [h0,h2,h3,h4,h5];rfl⟩
 have kov:∀k:Int,kindP T s=k→¬k=0→over T s=false:=fun k hk h0=>by
  have:=ps.kind_bad hk h0
  exact ps.over_no (by omega) this.2
 unfold ps.starts at h
 simp only [Bool.or_eq_true,decide_eq_true_eq,ps.inWord,ps.startL] at h
 rcases h with ((h|h)|h)|h
 ·exact fin (kov _ h (by decide)) (kind_else h (by decide) (by decide)) (kind_else h (by decide) (by decide)) (kind_else h (by decide) (by decide)) (kind_else h (by decide) (by decide)) (kind_else h (by decide) (by decide))
 ·exact fin (kov _ h (by decide)) (kind_else h (by decide) (by decide)) (kind_else h (by decide) (by decide)) (kind_else h (by decide) (by decide)) (kind_else h (by decide) (by decide)) (kind_else h (by decide) (by decide))
 ·exact fin (kov _ h (by decide)) (kind_else h (by decide) (by decide)) (kind_else h (by decide) (by decide)) (kind_else h (by decide) (by decide)) (kind_else h (by decide) (by decide)) (kind_else h (by decide) (by decide))
 ·have iov:∀t,isP zs T s t=true→over T s=false:=fun t ht=>by
   have:=ps.is_bad ht
   exact ps.over_no (by omega) this.2
  rcases h with h|h|h|h|h|h|h|h|h
  all_goals first|exact fin (iov _ h) (lit_ne h (by decide)) (lit_ne h (by decide)) (lit_ne h (by decide)) (lit_ne h (by decide)) (lit_ne h (by decide))|exact absurd h (by decide)
theorem starts_not {E:En} {f:Nat} {q:Ps} (hb:q.bad<0) (hf:6≤f) (h:starts E.zs E.T q=false):(pz E.zs E.T f 6 0 [] q).2.2.bad=(wrong E.zs E.T q).bad:=by
 unfold ps.starts at h
 simp only [Bool.or_eq_false_iff,decide_eq_false_iff_not,ps.inWord,ps.startL] at h
 obtain ⟨⟨⟨k1,k2⟩,k3⟩,i1,i2,i3,i4,i5,i6,i7,i8,_⟩:=h
 obtain ⟨f,rfl⟩:∃f',f=f'+1+1+1+1+1:=⟨f-5,by omega⟩
 have e:(prim E.zs E.T f q).2.2=wrong E.zs E.T q:=by
  unfold prim
  rw [i7]
  show nameS E.zs E.T q=_
  unfold ps.nameS
  rw [if_neg k1]
 have e4:(pz E.zs E.T (f+1) 4 0 [] q).2.2.bad=(wrong E.zs E.T q).bad:=by rw [p4,pz_off _ _ _ _ _ (by rw [e];exact wrong_nn),e]
 have e3:(pz E.zs E.T (f+1+1) 3 0 [] q).2.2.bad=(wrong E.zs E.T q).bad:=by
  rw [ps.pz_3]
  unfold ps.pB3
  simp only [i1,i2,i3,i4,i8,k2,k3,if_false,Bool.false_eq_true]
  exact e4
 have e2:(pz E.zs E.T (f+1+1+1) 2 0 [] q).2.2.bad=(wrong E.zs E.T q).bad:=by
  rw [ps.pz_2]
  unfold ps.pB2
  simp only [i5,i6,if_false,Bool.false_eq_true]
  exact e3
 have h2:0≤(pz E.zs E.T (f+1+1+1) 2 0 [] q).2.2.bad:=by rw [e2];exact wrong_nn
 have e0:(pz E.zs E.T (f+1+1+1+1) 0 1 [] q).2.2.bad=(wrong E.zs E.T q).bad:=by
  rw [ps.pz_0]
  unfold ps.pB0
  exact (pz_off _ _ _ _ _ h2).trans e2
 have h0:0≤(pz E.zs E.T (f+1+1+1+1) 0 1 [] q).2.2.bad:=by rw [e0];exact wrong_nn
 rw [ps.pz_6]
 unfold ps.pB6
 exact (pz_off _ _ _ _ _ h0).trans e0
theorem ret_start {E:En} {f:Nat} {s:Ps} (hb:s.bad<0) (hf:7≤f) (h:(pz E.zs E.T f 6 0 [] s).2.2.bad<0):starts E.zs E.T s=true:=by
 cases hs:starts E.zs E.T s with
 |true=>rfl
 |false =>
  have:=starts_not (f:=f) hb (by omega) hs
  have h2:0≤(wrong E.zs E.T s).bad:=wrong_nn
  omega
theorem ret_none {zs:List Int} {T:List (Int×Nat×Nat)} {s:Ps} (h:isP zs T s {data:=#[59]}=true∨ends zs T s=true):starts zs T s=false:=by
 cases hs:starts zs T s with
 |false=>rfl
 |true =>
  obtain ⟨h1,h2⟩:=starts_is hs
  rcases h with h|h
  ·rw [h1] at h;cases h
  ·rw [h2] at h;cases h
def retz (zs:List Int) (T:List (Int×Nat×Nat)) (f:Nat) (t:Ps):List (List Nd)×Int×Ps :=
 ([tk.node ⟨9,0,[],[],0⟩ (if starts zs T t then pz zs T f 6 0 [] t else ([],0,t)).1],0,(if starts zs T t then pz zs T f 6 0 [] t else ([],0,t)).2.2)
def Pr (E:En) (f:Nat) (t:Ps) (g:Nat) (w:World) (e:Ending) (w':World):Prop :=
 Pn E (retz E.zs E.T f t) g w e w'∨(Fq g w w'∧(retz E.zs E.T f t).2.2=t∧ends E.zs E.T t=false∧isP E.zs E.T t {data:=#[59]}=false∧e=.panicked (flt (wrong E.zs E.T t).bad))
theorem ret_dead {E:En} {f:Nat} {s:Ps} {g:Nat} {w w':World} (hb:s.bad<0) (hf:7≤f) (he:ends E.zs E.T s=false) (hs:isP E.zs E.T s {data:=#[59]}=false) (hF:Fq g w w') (h:0≤(pz E.zs E.T f 6 0 [] s).2.2.bad):Pr E f s g w (.panicked (flt (pz E.zs E.T f 6 0 [] s).2.2.bad)) w':=by
 cases hst:starts E.zs E.T s with
 |true=>exact .inl (dead hF h (by unfold retz;rw [hst];rfl))
 |false =>
  refine .inr ⟨hF,?_,he,hs,by rw [starts_not hb (by omega) hst]⟩
  unfold retz
  rw [hst]
  rfl
theorem results_any {E:En} (hI:Ir E) {f:Nat} (X:∀(s:Ps),need E.T 6 s≤f→∀(w:World) (g:Nat),Ip E w g s→Calls Tryz.prog 119 (ag1 g) w (Pk E (pz E.zs E.T f 6 0 [] s).1 (pz E.zs E.T f 6 0 [] s).2.2 g w)) (s:Ps) (hn:need E.T 6 s≤f) (w:World) (g:Nat) (hP:Ip E w g s):Calls Tryz.prog 109 (ag1 g) w (Pr E f s g w):=by
 have C:Hid (Cz E w g nil [] nil 0 [] [] w s):=Cz.start hI hP
 have HX:Hid (∀(s:Ps),need E.T 6 s≤f→∀(w:World) (g:Nat),Ip E w g s→Calls Tryz.prog 119 (ag1 g) w (Pk E (pz E.zs E.T f 6 0 [] s).1 (pz E.zs E.T f 6 0 [] s).2.2 g w)):=X
 have HM:E.T.length≤6000:=hI.many
 have HN:Hid (need E.T 6 s≤f∧7≤f∧s.bad<0):=⟨hn,by rw [need_ok _ hP.2.2.2.2] at hn;simp only [cOk] at hn;omega,hP.2.2.2.2⟩
 have K:Hid (s.at_≤E.T.length∧s.bad<0):=⟨hP.2.2.2.1,hP.2.2.2.2⟩
 clear hn hI X hP
 unfold ag1
 go_enter Tryz.func109,Tryz.ntmps109
 go_wp2_with (first
  |(go_at_call 81;refine (C.out.sees (by kernel_rfl)).mono ?_;rintro e w1 (⟨hb,rfl,hC⟩|⟨hb,rfl,hC⟩) <;> (replace C:Hid _:=hC) <;> (replace K:Hid (_∧_):=⟨hb,K.out⟩) <;> clear hC hb)
  |(go_at_call 80;refine (C.out.blockEnds).mono ?_;rintro e w1 (⟨hb,rfl,hC⟩|⟨hb,rfl,hC⟩) <;> (replace C:Hid _:=hC) <;> (replace K:Hid (_∧_):=⟨hb,K.out⟩) <;> clear hC hb)
  |(go_at_call 119;refine (C.out.listR (HX.out s HN.out.1) (p6_at HN.out.1)).mono ?_;rintro e w1 (⟨hb,ha,a1,c1,xs,rfl,hl,hC⟩|⟨hb,rfl,hF⟩);rotate_left;exact ⟨rfl,ret_dead HN.out.2.2 HN.out.2.1 K.out.1 K.out.2.1 hF hb⟩;replace C:Hid _:=hC;have hxl:xs.length≤20000:=(by have:=C.out.ip.2.2.2.1;omega);have HS:Hid (starts E.zs E.T s=true):=ret_start HN.out.2.2 HN.out.2.1 hb;have FIN:Hid True:=trivial;clear hC hb ha hl)
  |(go_at_call 84;first
   |(have z:=FIN.out;clear z;refine (C.out.foldR rfl (by omega) (by decide) (by decide) (by decide)).mono ?_;rintro e w1 ⟨T1,g1,rfl,hC,hF⟩;replace C:Hid _:=hC;clear hC hF)
   |(refine (C.out.bare (by decide) (by decide) (by decide)).mono ?_;rintro e w1 ⟨T1,g1,rfl,hC,hF⟩;replace C:Hid _:=hC;clear hC hF)))
 all_goals
  go_returns
  first
  |(have k:=HS.out;exact .inl (C.out.done (by simp only [retz,k,if_true]) (by simp only [retz,k,if_true])))
  |(have k:=K.out;have hs:=ret_none (zs:=E.zs) (T:=E.T) (s:=s) (by first|exact .inl k.1|exact .inr k.1);exact .inl (C.out.done (by simp only [retz,hs,if_false,Bool.false_eq_true]) (by simp only [retz,hs,if_false,Bool.false_eq_true])))
end ip
end Go.Proofs.YtkmiagkehcflnaaGreatDoor
