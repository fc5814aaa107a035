import Derived.Test.YtkmiagkehcflnaaGreatDoorMIpO
set_option linter.unusedVariables false
set_option linter.unusedSimpArgs false
set_option maxRecDepth 100000
set_option maxHeartbeats 8000000
namespace Go.Proofs.YtkmiagkehcflnaaGreatDoor
namespace ip
open Go.RowKit bts nod lex tk vt
open ps (En Ps isP kindP now wrong want got nameT nameS textOf over up_fq own_far bel_alloc pz need need_or cOk ends names starts named bare longer)
theorem stat_o {zs:List Int} {T:List (Int×Nat×Nat)} {f:Nat} {s:Ps} (h1:isP zs T s {data:=#[114,101,116,117,114,110]}=false) (h2:(s.loop&&isP zs T s {data:=#[98,114,101,97,107]})=false):stat zs T f s=pz zs T f 13 0 [] s:=by
 unfold stat
 rw [h1,h2]
 rfl
theorem stat_r {zs:List Int} {T:List (Int×Nat×Nat)} {f:Nat} {s:Ps} (h:isP zs T s {data:=#[114,101,116,117,114,110]}=true):stat zs T f s=retz zs T f (got zs T s {data:=#[114,101,116,117,114,110]}):=by
 unfold stat
 rw [h,if_pos rfl]
 rfl
theorem stat_b {zs:List Int} {T:List (Int×Nat×Nat)} {f:Nat} {s:Ps} (hl:s.loop=true) (h:isP zs T s {data:=#[98,114,101,97,107]}=true):stat zs T f s=([[⟨8,0,[],[],0⟩]],0,got zs T s {data:=#[98,114,101,97,107]}):=by
 unfold stat
 rw [lit_ne (t':={data:=#[114,101,116,117,114,110]}) h (by decide),hl,h]
 rfl
theorem bare9:bare 9=⟨9,0,[],[],0⟩:=by unfold ps.bare;rfl
theorem rt_a {zs:List Int} {T:List (Int×Nat×Nat)} {s:Ps} (h:isP zs T s {data:=#[108,111,99,97,108]}=true):isP zs T s {data:=#[114,101,116,117,114,110]}=false:=lit_ne h (by decide)
theorem br_a {zs:List Int} {T:List (Int×Nat×Nat)} {s:Ps} (h:isP zs T s {data:=#[108,111,99,97,108]}=true):isP zs T s {data:=#[98,114,101,97,107]}=false:=lit_ne h (by decide)
theorem rt_b {zs:List Int} {T:List (Int×Nat×Nat)} {s:Ps} (h:isP zs T s {data:=#[100,111]}=true):isP zs T s {data:=#[114,101,116,117,114,110]}=false:=lit_ne h (by decide)
theorem br_b {zs:List Int} {T:List (Int×Nat×Nat)} {s:Ps} (h:isP zs T s {data:=#[100,111]}=true):isP zs T s {data:=#[98,114,101,97,107]}=false:=lit_ne h (by decide)
theorem rt_c {zs:List Int} {T:List (Int×Nat×Nat)} {s:Ps} (h:isP zs T s {data:=#[119,104,105,108,101]}=true):isP zs T s {data:=#[114,101,116,117,114,110]}=false:=lit_ne h (by decide)
theorem br_c {zs:List Int} {T:List (Int×Nat×Nat)} {s:Ps} (h:isP zs T s {data:=#[119,104,105,108,101]}=true):isP zs T s {data:=#[98,114,101,97,107]}=false:=lit_ne h (by decide)
theorem rt_d {zs:List Int} {T:List (Int×Nat×Nat)} {s:Ps} (h:isP zs T s {data:=#[114,101,112,101,97,116]}=true):isP zs T s {data:=#[114,101,116,117,114,110]}=false:=lit_ne h (by decide)
theorem br_d {zs:List Int} {T:List (Int×Nat×Nat)} {s:Ps} (h:isP zs T s {data:=#[114,101,112,101,97,116]}=true):isP zs T s {data:=#[98,114,101,97,107]}=false:=lit_ne h (by decide)
theorem rt_e {zs:List Int} {T:List (Int×Nat×Nat)} {s:Ps} (h:isP zs T s {data:=#[105,102]}=true):isP zs T s {data:=#[114,101,116,117,114,110]}=false:=lit_ne h (by decide)
theorem br_e {zs:List Int} {T:List (Int×Nat×Nat)} {s:Ps} (h:isP zs T s {data:=#[105,102]}=true):isP zs T s {data:=#[98,114,101,97,107]}=false:=lit_ne h (by decide)
theorem rt_f {zs:List Int} {T:List (Int×Nat×Nat)} {s:Ps} (h:isP zs T s {data:=#[102,111,114]}=true):isP zs T s {data:=#[114,101,116,117,114,110]}=false:=lit_ne h (by decide)
theorem br_f {zs:List Int} {T:List (Int×Nat×Nat)} {s:Ps} (h:isP zs T s {data:=#[102,111,114]}=true):isP zs T s {data:=#[98,114,101,97,107]}=false:=lit_ne h (by decide)
section
variable {E:En} {w W:World} {g m:Nat} {un v x:Value} {nms:List (List Int)} {l:List Nd} {s s0:Ps} {r:List (List Nd)×Int×Ps}
theorem Cz.call0 {us:List Value} {ks:List (List Nd)} (C:Cz E w g un nms v m us ks W s) {f:Nat} {ag:Nat→Array Value} (hD:Nod E f ag s r) :
  Calls Tryz.prog f (ag g) W fun e w'=>(r.2.2.bad<0∧∃T gg l,e=.returned (.iface T (.pointer (some ⟨gg,0,none⟩)))∧r.1=[l]∧Cz E w g un nms v m (us++[.iface T (.pointer (some ⟨gg,0,none⟩))]) (ks++[l]) w' r.2.2)∨(0≤r.2.2.bad∧e=.panicked (flt r.2.2.bad)∧Fq g w w') :=
 (hD W g C.ip).mono (by
  rintro e w' ⟨hF,⟨hb,u,rfl,l,h1,h2,h3⟩|⟨hb,rfl⟩⟩
  ·obtain ⟨T,gg,rfl⟩:=h2.isI
   exact .inl ⟨hb,T,gg,l,rfl,h1,C.push hF h3 h2⟩
  ·exact .inr ⟨hb,rfl,C.fq.trans hF⟩)
theorem Cz.doneS (C:Cz E w g un nms v m [x] [l] W s) (h1:r.1=[l]) (h2:r.2.2=s):Ps' E r s0 g w (.returned x) W:=.inl (.inl (C.done h1 h2))
end
theorem sta_next {E:En} (hI:Ir E) {f:Nat} (A:∀m,m≤f→Ia E m) (X:∀(s:Ps),need E.T 6 s≤f+1→∀(w:World) (g:Nat),Ip E w g s→Calls Tryz.prog 119 (ag1 g) w (Pk E (pz E.zs E.T (f+1) 6 0 [] s).1 (pz E.zs E.T (f+1) 6 0 [] s).2.2 g w)) (s:Ps) (hn:need E.T 13 s≤f+1) (w:World) (g:Nat) (hP:Ip E w g s):Calls Tryz.prog 82 (ag1 g) w (Ps' E (stat E.zs E.T (f+1) s) s g w):=by
 have C:Hid (Cz E w g nil [] nil 0 [] [] w s):=Cz.start hI hP
 have HI:Hid (Ir E):=hI
 have HX:Hid (∀(s:Ps),need E.T 6 s≤f+1→∀(w:World) (g:Nat),Ip E w g s→Calls Tryz.prog 119 (ag1 g) w (Pk E (pz E.zs E.T (f+1) 6 0 [] s).1 (pz E.zs E.T (f+1) 6 0 [] s).2.2 g w)):=X
 have HA:Hid (Ia E f):=A f (Nat.le_refl _)
 have hk0:=hP.2.2.2
 rw [need_ok _ hP.2.2.2.2] at hn
 simp only [cOk] at hn
 have K:Hid (20*(E.T.length-s.at_)+9≤f+1∧s.at_≤E.T.length∧s.bad<0):=⟨hn,hk0.1,hk0.2⟩
 have c3:=C.out.ip.c3
 clear hn hI A hk0 hP X
 unfold ag1
 cases hlp:s.loop
 all_goals
  rw [hlp] at c3
  replace K:Hid (_∧_):=⟨hlp,K.out⟩
  have HL:Hid (_=_):=hlp
  clear hlp
  go_enter Tryz.func82,Tryz.ntmps82
  go_wp2_with (first
   |(go_at_call 83;refine (C.out.accepts (by kernel_rfl)).mono ?_;rintro e w1 (⟨hb,ha,rfl,hC⟩|⟨hb,rfl,hC⟩) <;> (replace C:Hid _:=hC) <;> (first|replace K:Hid (_∧_∧_):=⟨hb,ha,K.out⟩|replace K:Hid (_∧_):=⟨hb,K.out⟩) <;> (have c3:=C.out.ip.c3) <;> (try rw [HL.out] at c3) <;> clear hC hb)
   |(go_at_call 103;refine (C.out.call0 (local_any HI.out HA.out _ (by have k:=K.out;have c:=C.out.ip.2.2.2;omega))).mono ?_;rintro e w1 (⟨hb,T1,g1,l1,rfl,hl,hC⟩|⟨hb,rfl,hF⟩);rotate_left;exact ⟨rfl,.inl (.inl (dead hF hb (by have k:=K.out;simp (maxDischargeDepth:=20) only [stat,p13,k,rt_a,br_a,rt_b,br_b,rt_c,br_c,rt_d,br_d,rt_e,br_e,rt_f,br_f,bare9,if_true,if_false,Bool.false_eq_true,Bool.and_false,Bool.false_and,Bool.and_true,is_off,want_bd,name_bd,pz_off,sl_bad,hb])))⟩;(try simp only [List.nil_append] at hC);replace C:Hid _:=hC;replace K:Hid (_∧_∧_):=⟨hb,hl,K.out⟩;clear hC hb hl)
   |(go_at_call 108;refine (C.out.call0 (count_any HI.out HA.out _ (by have k:=K.out;have c:=C.out.ip.2.2.2;omega))).mono ?_;rintro e w1 (⟨hb,T1,g1,l1,rfl,hl,hC⟩|⟨hb,rfl,hF⟩);rotate_left;exact ⟨rfl,.inl (.inl (dead hF hb (by have k:=K.out;simp (maxDischargeDepth:=20) only [stat,p13,k,rt_a,br_a,rt_b,br_b,rt_c,br_c,rt_d,br_d,rt_e,br_e,rt_f,br_f,bare9,if_true,if_false,Bool.false_eq_true,Bool.and_false,Bool.false_and,Bool.and_true,is_off,want_bd,name_bd,pz_off,sl_bad,hb])))⟩;(try simp only [List.nil_append] at hC);replace C:Hid _:=hC;replace K:Hid (_∧_∧_):=⟨hb,hl,K.out⟩;clear hC hb hl)
   |(go_at_call 105;refine (C.out.cal (by decide) (expr_any HI.out HA.out _) (by have k:=K.out;have c:=C.out.ip.2.2.2;rw [need_ok _ c.2];simp only [cOk];omega)).mono ?_;rintro e w1 (⟨hb,ha,T1,g1,l1,rfl,hl,hC⟩|⟨hb,rfl,hF⟩);rotate_left;exact ⟨rfl,.inl (.inl (dead hF hb (by have k:=K.out;simp (maxDischargeDepth:=20) only [stat,p13,k,rt_a,br_a,rt_b,br_b,rt_c,br_c,rt_d,br_d,rt_e,br_e,rt_f,br_f,bare9,if_true,if_false,Bool.false_eq_true,Bool.and_false,Bool.false_and,Bool.and_true,is_off,want_bd,name_bd,pz_off,sl_bad,hb])))⟩;(try simp only [List.nil_append,List.cons_append] at hC);replace C:Hid _:=hC;replace K:Hid (_∧_∧_∧_):=⟨hb,ha,hl,K.out⟩;have KID:Hid True:=trivial;clear hC hb ha hl)
   |(go_at_call 107;refine (C.out.cal (by decide) (HA.out.iff_ _) (by have k:=K.out;have c:=C.out.ip.2.2.2;rw [need_ok _ c.2];simp only [cOk];omega)).mono ?_;rintro e w1 (⟨hb,ha,T1,g1,l1,rfl,hl,hC⟩|⟨hb,rfl,hF⟩);rotate_left;exact ⟨rfl,.inl (.inl (dead hF hb (by have k:=K.out;simp (maxDischargeDepth:=20) only [stat,p13,k,rt_a,br_a,rt_b,br_b,rt_c,br_c,rt_d,br_d,rt_e,br_e,rt_f,br_f,bare9,if_true,if_false,Bool.false_eq_true,Bool.and_false,Bool.false_and,Bool.and_true,is_off,want_bd,name_bd,pz_off,sl_bad,hb])))⟩;(try simp only [List.nil_append,List.cons_append] at hC);replace C:Hid _:=hC;replace K:Hid (_∧_∧_∧_):=⟨hb,ha,hl,K.out⟩;have KID:Hid True:=trivial;clear hC hb ha hl)
   |(go_at_call 104;refine (C.out.bod C.out.ir HA.out _ (by kernel_rfl) (by first|exact .inl rfl|exact .inr (.inr (.inr rfl))) (by have k:=K.out;have c:=C.out.ip.2.2.2;rw [need_ok _ c.2];simp only [cOk];omega)).mono ?_;rintro e w1 (⟨hb,ha,T1,g1,l1,rfl,hl,hC⟩|⟨hb,rfl,hF⟩);rotate_left;exact ⟨rfl,.inl (.inl (dead hF hb (by have k:=K.out;simp (maxDischargeDepth:=20) only [stat,p13,k,rt_a,br_a,rt_b,br_b,rt_c,br_c,rt_d,br_d,rt_e,br_e,rt_f,br_f,bare9,if_true,if_false,Bool.false_eq_true,Bool.and_false,Bool.false_and,Bool.and_true,is_off,want_bd,name_bd,pz_off,sl_bad,hb])))⟩;(try simp only [List.nil_append,List.cons_append] at hC);replace C:Hid _:=hC;replace K:Hid (_∧_∧_∧_):=⟨hb,ha,hl,K.out⟩;have KID:Hid True:=trivial;clear hC hb ha hl)
   |(go_at_call 106;refine (C.out.expect (by kernel_rfl)).mono ?_;rintro e w1 (⟨hb,ha,⟨u,rfl⟩,hC⟩|⟨hb,rfl,hF⟩);rotate_left;exact ⟨rfl,.inl (.inl (dead hF hb (by have k:=K.out;simp (maxDischargeDepth:=20) only [stat,p13,k,rt_a,br_a,rt_b,br_b,rt_c,br_c,rt_d,br_d,rt_e,br_e,rt_f,br_f,bare9,if_true,if_false,Bool.false_eq_true,Bool.and_false,Bool.false_and,Bool.and_true,is_off,want_bd,name_bd,pz_off,sl_bad,hb])))⟩;replace C:Hid _:=hC;replace K:Hid (_∧_∧_):=⟨hb,ha,K.out⟩;clear hC hb ha)
   |(go_at_call 109;refine (results_any HI.out HX.out _ (by have k:=K.out;have c:=C.out.ip.2.2.2;rw [need_ok _ c.2];simp only [cOk];omega) _ g C.out.ip).mono ?_;rintro e w1 (⟨hF,⟨hb,u,rfl,l1,h1,h2,h3⟩|⟨hb,rfl⟩⟩|⟨hF,h1,h2,h3,rfl⟩);rotate_left;exact ⟨rfl,.inl (.inl (dead (C.out.fq.trans hF) hb (by rw [stat_r K.out.1])))⟩;exact ⟨rfl,.inr ⟨C.out.fq.trans hF,K.out.1,by rw [stat_r K.out.1,h1];exact C.out.ip.2.2.2.2,by rw [stat_r K.out.1,h1];exact h2,by rw [stat_r K.out.1,h1];exact h3,by rw [stat_r K.out.1,h1]⟩⟩;obtain ⟨T1,g1,rfl⟩:=h2.isI;have hC:=C.out.push hF h3 h2;simp only [List.nil_append] at hC;replace C:Hid _:=hC;replace K:Hid (_∧_):=⟨h1,K.out⟩;have RET:Hid True:=trivial;clear hC hF hb h1 h2 h3)
   |(go_at_call 110;(refine (HA.out.oth _ (by have k:=K.out;have c:=C.out.ip.2.2.2;rw [need_ok _ c.2];simp only [cOk];omega) _ g C.out.ip).mono ?_;rintro e w1 (⟨hF,⟨hb,u,rfl,l1,h1,h2,h3⟩|⟨hb,rfl⟩⟩|⟨hF,h1,s1,u,rfl,h2⟩);rotate_left;exact ⟨rfl,.inl (.inl (dead (C.out.fq.trans hF) hb (by have k:=K.out;simp (maxDischargeDepth:=20) only [stat,p13,k,rt_a,br_a,rt_b,br_b,rt_c,br_c,rt_d,br_d,rt_e,br_e,rt_f,br_f,bare9,if_true,if_false,Bool.false_eq_true,Bool.and_false,Bool.false_and,Bool.and_true,is_off,want_bd,name_bd,pz_off,sl_bad,hb])))⟩;(obtain ⟨q1,q2,q3,q4,q5,q6,l9,q7⟩:=h2;obtain ⟨T1,g1,rfl⟩:=q7.isI;have ST:Hid (stat E.zs E.T (f+1) s=pz E.zs E.T f 16 0 [] s):=(by show _=_;have k:=K.out;simp (maxDischargeDepth:=20) only [stat,p13,k,rt_a,br_a,rt_b,br_b,rt_c,br_c,rt_d,br_d,rt_e,br_e,rt_f,br_f,bare9,if_true,if_false,Bool.false_eq_true,Bool.and_false,Bool.false_and,Bool.and_true]);have FIN:Hid (Ps' E (stat E.zs E.T (f+1) s) s g w (.returned (.iface T1 (.pointer (some ⟨g1,0,none⟩)))) w1):=(.inl (.inr ⟨C.out.fq.trans hF,h1,s1,_,rfl,q1,q2,q3,by rw [ST.out];exact q4,by rw [ST.out];exact q5,q6,l9,(q7.lk (lk_veils fun b _ h=>tk.lt_ge (by have:=C.out.sz;simp [tk.lt] at h;omega))).wide C.out.sz (Nat.le_refl _)⟩));clear hF h1 q1 q2 q3 q4 q5 q6 q7 ST);rotate_left;(obtain ⟨T1,g1,rfl⟩:=h2.isI;have hC:=C.out.push hF h3 h2;simp only [List.nil_append] at hC;replace C:Hid _:=hC;replace K:Hid (_∧_):=⟨h1,K.out⟩;clear hC hF hb h1 h2 h3)))
   |(go_at_call 84;first
    |(have z:=KID.out;clear z;refine (C.out.lit rfl (by simp) (by decide) (by decide) (by decide)).mono ?_;rintro e w1 ⟨T1,g1,rfl,hC,hF⟩;replace C:Hid _:=hC;clear hC hF)
    |(refine (C.out.bare (by decide) (by decide) (by decide)).mono ?_;rintro e w1 ⟨T1,g1,rfl,hC,hF⟩;replace C:Hid _:=hC;have BRK:Hid True:=trivial;clear hC hF)))
  all_goals
   go_returns
   first
   |(have z:=RET.out;clear z;have k:=K.out;exact C.out.doneS (by rw [stat_r (by simp only [k])];exact k.1) (by rw [stat_r (by simp only [k])]))
   |(have z:=BRK.out;clear z;have k:=K.out;exact C.out.doneS (by rw [stat_b (by simp only [k]) (by simp only [k])];rfl) (by rw [stat_b (by simp only [k]) (by simp only [k])]))
   |exact FIN.out
   |exact C.out.doneS (by have k:=K.out;simp (maxDischargeDepth:=20) only [stat,p13,k,rt_a,br_a,rt_b,br_b,rt_c,br_c,rt_d,br_d,rt_e,br_e,rt_f,br_f,bare9,if_true,if_false,Bool.false_eq_true,Bool.and_false,Bool.false_and,Bool.and_true] <;> rfl) (by have k:=K.out;simp (maxDischargeDepth:=20) only [stat,p13,k,rt_a,br_a,rt_b,br_b,rt_c,br_c,rt_d,br_d,rt_e,br_e,rt_f,br_f,bare9,if_true,if_false,Bool.false_eq_true,Bool.and_false,Bool.false_and,Bool.and_true])
end ip
namespace ip
open Go.RowKit bts nod lex tk vt
open ps (En Ps isP kindP now wrong want got nameT nameS textOf over up_fq own_far bel_alloc pz need need_or cOk ends names starts named bare longer)
section
variable {zs:List Int} {T:List (Int×Nat×Nat)}
theorem p12 (m:Nat) (n:Int) (ks:List (List Nd)) (q:Ps):pz zs T (m+1) 12 n ks q=if ends zs T q then (ks,0,q) else if isP zs T q {data:=#[114,101,116,117,114,110]} || (q.loop&&isP zs T q {data:=#[98,114,101,97,107]}) then (ks++(stat zs T m q).1,0,got zs T (stat zs T m q).2.2 {data:=#[59]}) else pz zs T m 12 0 (ks++(stat zs T m q).1) (got zs T (stat zs T m q).2.2 {data:=#[59]}):=by
 rw [ps.pz_12]
 unfold ps.pB12 stat
 split
 ·rfl
 ·cases h1:isP zs T q {data:=#[114,101,116,117,114,110]} with
  |true=>rfl
  |false =>
   cases h2:q.loop&&isP zs T q {data:=#[98,114,101,97,107]} with
   |true=>rfl
   |false=>rfl
theorem p11 (f:Nat) (n:Int) (ks:List (List Nd)) (q:Ps):pz zs T (f+1) 11 n ks q=([tk.node ⟨0,0,[],[],0⟩ (pz zs T f 12 0 [] q).1],0,(pz zs T f 12 0 [] q).2.2):=rfl
theorem stat_at {m:Nat} {q:Ps} (hm:need T 13 q≤m) (hb:q.bad<0) (h:(stat zs T m q).2.2.bad<0):q.at_<(stat zs T m q).2.2.at_:=by
 rw [need_ok _ hb] at hm
 simp only [cOk] at hm
 cases h1:isP zs T q {data:=#[114,101,116,117,114,110]} with
 |true =>
  rw [stat_r h1]
  have g1:=ps.got_yes h1
  have g2:=ps.is_bad h1
  unfold retz
  simp only
  split
  ·have:=(ps.gd_at (ps.pz_gd zs T m 6 0 [] (got zs T q {data:=#[114,101,116,117,114,110]}) (by decide) (by rw [need_ok _ (by omega)];simp only [cOk];omega))).1
   omega
  ·simp only
   omega
 |false =>
  cases h2:(q.loop&&isP zs T q {data:=#[98,114,101,97,107]}) with
  |true =>
   rw [Bool.and_eq_true] at h2
   rw [stat_b h2.1 h2.2]
   have:=ps.got_yes h2.2
   simp only
   omega
  |false =>
   rw [stat_o h1 h2] at h ⊢
   have:=(ps.pz_gd zs T m 13 0 [] q (by decide) (by rw [need_ok _ hb];simp only [cOk];omega)).2.2.2.2.1 h
   simp only [ps.qQ] at this
   omega
theorem ends_lit {q:Ps} {t:ByteArray} (h:isP zs T q t=true) (h1:(t.data.toList==([101,110,100]:List UInt8))=false) (h2:(t.data.toList==([101,108,115,101]:List UInt8))=false) (h3:(t.data.toList==([101,108,115,101,105,102]:List UInt8))=false) (h4:(t.data.toList==([117,110,116,105,108]:List UInt8))=false):ends zs T q=false:=by
 have h0:=ps.is_bad h
 unfold ps.ends
 rw [ps.over_no (by omega) h0.2,lit_ne (t':={data:=#[101,110,100]}) h h1,lit_ne (t':={data:=#[101,108,115,101]}) h h2,lit_ne (t':={data:=#[101,108,115,101,105,102]}) h h3,lit_ne (t':={data:=#[117,110,116,105,108]}) h h4]
 rfl
end
def Md (E:En) (f:Nat) (Z:List (List Nd)×Int×Ps) (lb:Bool) (ks:List (List Nd)) (q:Ps):Prop :=
 (lb=true∧Z=(ks,0,q))∨(lb=false∧∃m,m≤f∧20*(E.T.length-q.at_)+10≤m∧(Z=pz E.zs E.T m 12 0 ks q∨((isP E.zs E.T q {data:=#[61]}=true∨isP E.zs E.T q {data:=#[44]}=true)∧0≤Z.2.2.bad∧Z.2.2.bad=(wrong E.zs E.T q).bad)))
section
variable {E:En} {w W:World} {g m f n:Nat} {un v x:Value} {nms:List (List Int)} {us:List Value} {ks:List (List Nd)} {l:List Nd} {s q:Ps} {Z:List (List Nd)×Int×Ps}
theorem Md.end_ {lb:Bool} (h:Md E f Z lb ks q) (he:lb=true∨ends E.zs E.T q=true):Z=(ks,0,q):=by
 rcases h with ⟨_,h⟩|⟨rfl,m,_,hm,h|⟨h,_⟩⟩
 ·exact h
 ·obtain ⟨m,rfl⟩:∃m',m=m'+1:=⟨m-1,by omega⟩
  rw [h,p12,if_pos (by rcases he with he|he;cases he;exact he)]
 ·have e:ends E.zs E.T q=false:=by rcases h with h|h <;> exact ends_lit h (by decide) (by decide) (by decide) (by decide)
  rcases he with he|he
  ·cases he
  ·rw [e] at he;cases he
theorem bad_pb {Z:List (List Nd)×Int×Ps} {b:Int} (h0:0≤b) (h:Z.2.2.bad=b):(0≤Z.2.2.bad∨ends E.zs E.T Z.2.2=false)∧flt b=flt (wrong E.zs E.T Z.2.2).bad:=⟨.inl (by omega),by rw [wrong_off (by omega),h]⟩
theorem Cz.stm (C:Cz E w g un nms v n us ks W q) (A:∀m,m≤f→Ia E m) (M:Md E f Z false ks q) (he:ends E.zs E.T q=false) :
  Calls Tryz.prog 82 (ag1 g) W fun e w' =>
   (∃T gg l q',e=.returned (.iface T (.pointer (some ⟨gg,0,none⟩)))∧q.at_<q'.at_∧Cz E w g un nms v n (us++[.iface T (.pointer (some ⟨gg,0,none⟩))]) (ks++[l]) w' q'∧Md E f Z (isP E.zs E.T q {data:=#[114,101,116,117,114,110]} || isP E.zs E.T q {data:=#[98,114,101,97,107]}) (ks++[l]) (got E.zs E.T q' {data:=#[59]})) ∨
   (Fq g w w'∧(0≤Z.2.2.bad∨ends E.zs E.T Z.2.2=false)∧e=.panicked (flt (wrong E.zs E.T Z.2.2).bad)):=by
 rcases M with ⟨h,_⟩|⟨_,m,hmf,hm,M⟩
 ·cases h
 obtain ⟨m,rfl⟩:∃m',m=m'+1:=⟨m-1,by omega⟩
 have hb0:=C.ip.2.2.2.2
 have hnd:need E.T 13 q≤m:=by rw [need_ok _ hb0];simp only [cOk];omega
 have hC:=(A m (by omega)).sta q hnd W g C.ip
 have nk:∀{t:ByteArray},isP E.zs E.T q t=true→(t.data.toList==([40]:List UInt8))=false→¬(kindP E.T q=1∨isP E.zs E.T q {data:=#[40]}=true):=fun h h1 h2=>by
  rcases h2 with h2|h2
  ·rcases is_kind h with h|h <;> omega
  ·rw [lit_ne (t':={data:=#[40]}) h h1] at h2;cases h2
 rcases M with M|⟨M,hz,hz2⟩
 ·rw [p12,he,if_neg (by decide)] at M
  have adv:(stat E.zs E.T m q).2.2.bad<0→q.at_<(stat E.zs E.T m q).2.2.at_:=stat_at hnd hb0
  have bk:isP E.zs E.T q {data:=#[114,101,116,117,114,110]}=false→q.loop=false→isP E.zs E.T q {data:=#[98,114,101,97,107]}=true→0≤(stat E.zs E.T m q).2.2.bad:=fun h1 h2 h3=>by
   rw [stat_o h1 (by rw [h2];rfl),sta_bad hb0 (by omega) h3 (by decide) (by decide) (by decide) (by decide) (by decide) (by decide) (by decide)]
   exact wrong_nn
  have rt:(stat E.zs E.T m q).2.2.bad<0→(isP E.zs E.T q {data:=#[114,101,116,117,114,110]} || isP E.zs E.T q {data:=#[98,114,101,97,107]})=true→(isP E.zs E.T q {data:=#[114,101,116,117,114,110]} || (q.loop&&isP E.zs E.T q {data:=#[98,114,101,97,107]}))=true:=fun h1 h2=>by
   cases k1:isP E.zs E.T q {data:=#[114,101,116,117,114,110]} with
   |true=>rfl
   |false =>
    rw [k1,Bool.false_or] at h2
    cases k2:q.loop with
    |true=>rw [h2];rfl
    |false=>have:=bk k1 k2 h2;omega
  have zb:0≤(stat E.zs E.T m q).2.2.bad→Z.2.2.bad=(stat E.zs E.T m q).2.2.bad:=fun h=>by
   rw [M]
   split
   ·exact congrArg Ps.bad (got_off h)
   ·rw [got_off h,pz_off _ _ _ _ _ h]
  refine hC.mono ?_
  rintro e w' ((⟨hF,⟨hb,u,rfl,l,h1,h2,h3⟩|⟨hb,rfl⟩⟩|⟨hF,h1,s1,u,rfl,q1,q2,q3,q4,q5,q6,l,q7⟩)|⟨hF,h1,h2,h3,h4,rfl⟩)
  ·obtain ⟨T,gg,rfl⟩:=h2.isI
   refine .inl ⟨T,gg,l,_,rfl,adv hb,C.push hF h3 h2,?_⟩
   rw [h1] at M
   cases k:isP E.zs E.T q {data:=#[114,101,116,117,114,110]} || isP E.zs E.T q {data:=#[98,114,101,97,107]} with
   |true=>exact .inl ⟨rfl,by rw [M,if_pos (rt hb k)]⟩
   |false =>
    refine .inr ⟨rfl,m,by omega,?_,.inl ?_⟩
    ·have:=adv hb
     have:=h3.2.2.2.1
     rcases ps.got_or E.zs E.T (stat E.zs E.T m q).2.2 {data:=#[59]} with h|h <;> omega
    ·rw [Bool.or_eq_false_iff] at k
     rw [M,if_neg (by rw [k.1,k.2,Bool.and_false];decide)]
  ·exact .inr ⟨C.fq.trans hF,(bad_pb hb (zb hb)).1,by rw [(bad_pb (E:=E) hb (zb hb)).2]⟩
  ·obtain ⟨T,gg,rfl⟩:=q7.isI
   have n1:∀{t:ByteArray},(t.data.toList==([40]:List UInt8))=false→isP E.zs E.T q t=false:=fun {t} ht=>by
    cases k:isP E.zs E.T q t with
    |false=>rfl
    |true=>exact absurd h1 (nk k ht)
   have hne:¬s1.at_=q.at_:=fun e1=>by
    have hb1:=q1.2.2.2.2
    have ke:∀t,isP E.zs E.T s1 t=isP E.zs E.T q t:=fun t=>by
     unfold ps.isP ps.kindP ps.now
     have ov:over E.T s1=over E.T q:=by
      rcases Nat.lt_or_ge q.at_ E.T.length with h|h
      ·rw [ps.over_no (by omega) (by omega),ps.over_no (by omega) h]
      ·have:=C.ip.2.2.2.1
       rw [ps.over_end (by omega),ps.over_end (by omega)]
     rw [ov,e1]
    rcases q6 with h|h
    ·rw [ke,n1 (by decide)] at h;cases h
    ·rw [ke,n1 (by decide)] at h;cases h
   have hsc:got E.zs E.T s1 {data:=#[59]}=s1:=ps.got_no (by rcases q6 with h|h <;> (rw [lit_ne h (by decide)];decide))
   refine .inl ⟨T,gg,l,s1,rfl,by omega,C.push hF q1 q7,.inr ⟨by rw [n1 (by decide),n1 (by decide)];rfl,m+1,hmf,by rw [hsc];omega,.inr ?_⟩⟩
   rw [hsc]
   exact ⟨q6,by rw [zb q4];exact q4,by rw [zb q4,q5]⟩
  ·have hsc:got E.zs E.T (stat E.zs E.T m q).2.2 {data:=#[59]}=(stat E.zs E.T m q).2.2:=ps.got_no (by rw [h4];decide)
   have ez:Z.2.2=(stat E.zs E.T m q).2.2:=by rw [M,h1,Bool.true_or,if_pos rfl,hsc]
   exact .inr ⟨C.fq.trans hF,.inr (by rw [ez];exact h3),by rw [ez]⟩
 ·have n1:∀{t':ByteArray},(([61]:List UInt8)==t'.data.toList)=false→(([44]:List UInt8)==t'.data.toList)=false→isP E.zs E.T q t'=false:=fun h1 h2=>by
   rcases M with M|M
   ·exact lit_ne M h1
   ·exact lit_ne M h2
  have sb:(stat E.zs E.T m q).2.2.bad=(wrong E.zs E.T q).bad:=by
   rw [stat_o (n1 (by decide) (by decide)) (by rw [n1 (t':={data:=#[98,114,101,97,107]}) (by decide) (by decide),Bool.and_false])]
   rcases M with M|M <;> exact sta_bad hb0 (by omega) M (by decide) (by decide) (by decide) (by decide) (by decide) (by decide) (by decide)
  have s0:0≤(stat E.zs E.T m q).2.2.bad:=by rw [sb];exact wrong_nn
  refine hC.mono ?_
  rintro e w' ((⟨hF,⟨hb,u,rfl,l,h1,h2,h3⟩|⟨hb,rfl⟩⟩|⟨hF,h1,s1,u,rfl,q1⟩)|⟨hF,h1,h2,h3,h4,rfl⟩)
  ·omega
  ·exact .inr ⟨C.fq.trans hF,(bad_pb hb (hz2.trans sb.symm)).1,by rw [(bad_pb (E:=E) hb (hz2.trans sb.symm)).2]⟩
  ·exfalso
   rcases M with M|M <;> exact nk M (by decide) h1
  ·rw [n1 (by decide) (by decide)] at h1;cases h1
theorem Cz.doneB {r:List (List Nd)×Int×Ps} {lp:Bool} (C:Cz E w g nil [] nil 0 [x] [tk.node ⟨0,0,[],[],0⟩ ks] W (sl q lp)) (hz:Z=(ks,0,q)) (hr:r=([tk.node ⟨0,0,[],[],0⟩ Z.1],0,Z.2.2)):Pb E r lp g w (.returned x) W:=by
 subst hz
 subst hr
 exact ⟨C.fq,.inl ⟨C.ip.2.2.2.2,x,_,rfl,rfl,C.ret,C.ip⟩⟩
theorem Cz.setLoop (C:Cz E w g un nms v n us ks W s) (b:Bool):Cz E w g un nms v n us ks (W.setCell ⟨g,3,none⟩ (.bool b)) (sl s b):=C.to (Fq.set _ _) (C.ip.loop b)
end
theorem blk_next {E:En} (hI:Ir E) {f:Nat} (A:∀m,m≤f→Ia E m) (lp:Bool) (s:Ps) (hn:need E.T 11 s≤f+1) (w:World) (g:Nat) (hP:Ip E w g s):Calls Tryz.prog 41 (agB lp g) w (Pb E (pz E.zs E.T (f+1) 11 0 [] (sl s lp)) s.loop g w):=by
 have C:Hid (Cz E w g nil [] nil 0 [] [] (w.setCell ⟨g,3,none⟩ (.bool lp)) (sl s lp)):=(Cz.start hI hP).setLoop lp
 have HA:Hid (∀m,m≤f→Ia E m):=A
 have HM:E.T.length≤6000:=hI.many
 have c3:=hP.c3
 have fr:w.frozen? ⟨g,3,none⟩=false:=hP.2.2.1.free 3
 have J:Hid ((pz E.zs E.T (f+1) 11 0 [] (sl s lp))=([tk.node ⟨0,0,[],[],0⟩ (pz E.zs E.T f 12 0 [] (sl s lp)).1],0,(pz E.zs E.T f 12 0 [] (sl s lp)).2.2)):=p11 _ _ _ _
 have X:Hid (Md E f (pz E.zs E.T f 12 0 [] (sl s lp)) false [] (sl s lp)):=.inr ⟨rfl,f,Nat.le_refl _,by rw [need_ok 11 hP.2.2.2.2] at hn;simp only [cOk] at hn;show 20*(E.T.length-s.at_)+10≤f;omega,.inl rfl⟩
 generalize pz E.zs E.T f 12 0 [] (sl s lp)=Z at J X
 generalize (pz E.zs E.T (f+1) 11 0 [] (sl s lp))=r at J ⊢
 clear hn hI A hP
 unfold agB
 go_enter Tryz.func41,Tryz.ntmps41
 go_wp2_with fail
 go_loopw [6,7] (fun v6 v7 wr=>∃(n:Nat) (us:List Value) (ks:List (List Nd)) (q:Ps) (a:Option Addr) (c:Nat) (lb:Bool),v6=.slice a n c∧v7=.bool lb∧Hid (us.length=n)∧Hid (Cz E w g nil [] (.slice a n c) n us ks wr q)∧Hid (Md E f Z lb ks q)∧n≤q.at_) (fun _ _ wr=>mI E g wr)
 case atStart=>exact ⟨0,[],[],sl s lp,none,0,false,rfl,rfl,(show ([]:List Value).length=0 from rfl),C,X,Nat.zero_le _⟩
 case round =>
  obtain ⟨n,us,ks,q,a,c,lb,rfl,rfl,hu,C2,M,hl⟩:=hrel
  clear C X c3 fr
  have C:Hid _:=C2
  clear C2
  have hms:=mI_eq C.out.ip
  have hq:=C.out.ip.2.2.2.1
  have fr:=C.out.ip.2.2.1.free 3
  have c3:=C.out.ip.c3
  have K:Hid (q.at_≤E.T.length):=hq
  have H0:Hid (mI E g _=E.T.length-q.at_):=hms
  clear hms
  cases lb
  all_goals
   go_wp2_with (first
    |(go_at_call 80;refine (C.out.blockEnds).mono ?_;rintro e w1 (⟨hb,rfl,hC⟩|⟨hb,rfl,hC⟩) <;> (replace C:Hid _:=hC) <;> (have EN:Hid (_=_):=hb) <;> (have fr:=C.out.ip.2.2.1.free 3) <;> (have c3:=C.out.ip.c3) <;> clear hC hb)
    |(go_at_call 81;refine (C.out.sees (by kernel_rfl)).mono ?_;rintro e w1 (⟨hb,rfl,hC⟩|⟨hb,rfl,hC⟩) <;> (replace C:Hid _:=hC) <;> (replace K:Hid (_∧_):=⟨hb,K.out⟩) <;> clear hC hb)
    |(go_at_call 82;refine (C.out.stm HA.out M.out EN.out).mono ?_;rintro e w1 (⟨T1,g1,l2,q',rfl,hat,hC,hM⟩|⟨hF,hz,rfl⟩);rotate_left;exact ⟨rfl,hF,.inr ⟨by rw [J.out];exact hz,by rw [J.out]⟩⟩;replace C:Hid _:=hC;have M2:Hid (Md E f Z _ _ _):=hM;have H1:Hid (_<_):=hat;clear hC hM hat M)
    |(at_builtin;refine wpList_row (m2:=1) rfl _ _ rfl us [_] C.out hu.out rfl rfl rfl rfl (by omega) ?_;intro a' c' w' hC;replace C:Hid _:=hC;clear hC)
    |(go_at_call 83;refine (C.out.accepts (by kernel_rfl)).mono ?_;rintro e w1 (⟨hb,ha,rfl,hC⟩|⟨hb,rfl,hC⟩) <;> (replace C:Hid _:=hC) <;> (first|replace K:Hid (_∧_∧_):=⟨hb,ha,K.out⟩|replace K:Hid (_∧_):=⟨hb,K.out⟩) <;> clear hC hb)
    |(go_at_call 84;replace C:Hid _:=C.out.setLoop s.loop;refine (C.out.foldR hu.out (by omega) (by decide) (by decide) (by decide)).mono ?_;rintro e w1 ⟨T1,g1,rfl,hC,hF⟩;replace C:Hid _:=hC;clear hC hF))
  all_goals first
   |(go_returns;exact C.out.doneB (M.out.end_ (by first|exact .inl rfl|exact .inr EN.out)) J.out)
   |skip
  all_goals
   have k:=K.out
   have k1:=H1.out
   have k2:=C.out.ip.2.2.2.1
   have m2:=M2.out
   simp only [k,Bool.true_or,Bool.or_true,Bool.or_false] at m2
   first
   |(refine ⟨⟨n+1,us++[_],ks++[l2],_,a',c',_,rfl,rfl,?_,C,m2,?_⟩,?_⟩
     ·show (us++[_]).length=_
      rw [List.length_append,hu.out]
      rfl
     ·omega
     ·rw [mI_eq C.out.ip,H0.out]
      omega)
   |(rw [ps.got_no (by rw [k.1];decide)] at m2
     refine ⟨⟨n+1,us++[_],ks++[l2],_,a',c',_,rfl,rfl,?_,C,m2,?_⟩,?_⟩
     ·show (us++[_]).length=_
      rw [List.length_append,hu.out]
      rfl
     ·omega
     ·rw [mI_eq C.out.ip,H0.out]
      omega)
end ip
namespace ip
open Go.RowKit bts nod lex tk vt
open ps (En Ps isP kindP now wrong want got nameT nameS textOf over up_fq own_far bel_alloc pz need need_or cOk ends names starts named bare longer)
theorem need_nil {E:En} {tag:Nat} {s:Ps} (hb:s.bad<0) (hc:1≤cOk tag) (hn:need E.T tag s≤0):False:=by
 rw [need_ok _ hb] at hn
 omega
theorem ia_every {E:En} (hI:Ir E) (f:Nat):Ia E f:=by
 induction f using Nat.strongRecOn with
 |ind f ih =>
  cases f with
  |zero =>
   exact ⟨fun n s _ _ hn w g hP=>(need_nil hP.2.2.2.2 (by decide) hn).elim,fun s hn w g hP=>(need_nil hP.2.2.2.2 (by decide) hn).elim,fun s hn w g hP=>(need_nil hP.2.2.2.2 (by decide) hn).elim,fun s hn w g hP=>(need_nil hP.2.2.2.2 (by decide) hn).elim,fun s hn w g hP=>(need_nil hP.2.2.2.2 (by decide) hn).elim,fun s hn w g hP=>(need_nil hP.2.2.2.2 (by decide) hn).elim,fun s hs hn w g hP=>(need_nil (ps.is_bad hs).1 (by decide) hn).elim,fun lp s hn w g hP=>(need_nil hP.2.2.2.2 (by decide) hn).elim,fun s hn w g hP=>(need_nil hP.2.2.2.2 (by decide) hn).elim,fun s hn w g hP=>(need_nil hP.2.2.2.2 (by decide) hn).elim,fun s hn w g hP=>(need_nil hP.2.2.2.2 (by decide) hn).elim⟩
  |succ f =>
   have A:∀m,m≤f→Ia E m:=fun m hm=>ih m (by omega)
   have A1:=A f (Nat.le_refl _)
   exact ⟨bin_next hI A,una_next hI A1,sim_next hI A1,suf_next hI A,exs_next hI A,fun_next hI A1,tab_next hI A,blk_next hI A,sta_next hI A (exs_next hI A),iff_next hI A,oth_next hI A⟩
def s0:Ps:=⟨0,-1,false,false⟩
def top (zs:List Int) (T:List (Int×Nat×Nat)):List (List Nd)×Int×Ps:=pz zs T (20*T.length+40) 11 0 [] s0
def topS (zs:List Int) (T:List (Int×Nat×Nat)):Ps:=if (top zs T).2.2.bad<0∧(top zs T).2.2.at_<T.length then wrong zs T (top zs T).2.2 else (top zs T).2.2
theorem parse_top (zs:List Int) (T:List (Int×Nat×Nat)) (valid:List Nd→Bool):ps.parseT zs T valid=if 0≤(topS zs T).bad then ([],2,(topS zs T).bad) else if (topS zs T).long || !valid ((top zs T).1.getD 0 []) then ([],4,0) else ((top zs T).1.getD 0 [],0,0):=rfl
theorem top_bad {E:En} (h:0≤(top E.zs E.T).2.2.bad∨ends E.zs E.T (top E.zs E.T).2.2=false):(topS E.zs E.T).bad=(wrong E.zs E.T (top E.zs E.T).2.2).bad:=by
 unfold topS
 rcases h with h|h
 ·rw [if_neg (by omega),wrong_off h]
 ·by_cases hb:0≤(top E.zs E.T).2.2.bad
  ·rw [if_neg (by omega),wrong_off hb]
  ·have:over E.T (top E.zs E.T).2.2=false:=by
    unfold ps.ends at h
    simp only [Bool.or_eq_false_iff] at h
    exact h.1.1.1.1
   unfold ps.over at this
   simp only [Bool.or_eq_false_iff,decide_eq_false_iff_not] at this
   rw [if_pos ⟨by omega,by omega⟩]
theorem top_over {zs:List Int} {T:List (Int×Nat×Nat)} (h:over T (top zs T).2.2=false) (hb:(top zs T).2.2.bad<0):topS zs T=wrong zs T (top zs T).2.2:=by
 unfold ps.over at h
 simp only [Bool.or_eq_false_iff,decide_eq_false_iff_not] at h
 unfold topS
 rw [if_pos ⟨hb,by omega⟩]
theorem top_end {zs:List Int} {T:List (Int×Nat×Nat)} (h:over T (top zs T).2.2=true):topS zs T=(top zs T).2.2:=by
 unfold ps.over at h
 simp only [Bool.or_eq_true,decide_eq_true_eq] at h
 unfold topS
 rw [if_neg (by omega)]
theorem program_any {E:En} (hI:Ir E) (w:World) (g:Nat) (hP:Ip E w g s0):Calls Tryz.prog 19 (ag1 g) w (Px (topS E.zs E.T) g w fun v w'=>∃l,(top E.zs E.T).1=[l]∧(topS E.zs E.T).long=(top E.zs E.T).2.2.long∧l.length≤200000∧Nv (tk.lt w.heap.size) w' w.heap.size w'.heap.size v l):=by
 have C:Hid (Cz E w g nil [] nil 0 [] [] w s0):=Cz.start hI hP
 have HA:Hid (Ia E (20*E.T.length+40)):=ia_every hI _
 have HN:Hid (need E.T 11 s0≤20*E.T.length+40):=by
  show need E.T 11 s0≤_
  rw [need_ok _ hP.2.2.2.2]
  simp only [cOk,s0]
  omega
 clear hI hP
 unfold ag1
 go_enter Tryz.func19,Tryz.ntmps19
 go_wp2_with (first
  |(go_at_call 41;refine (C.out.blkS HA.out rfl HN.out).mono ?_;rintro e w1 (⟨hb,ha,T1,g1,l1,rfl,hl,hC⟩|⟨hb,rfl,hF⟩);rotate_left;exact ⟨rfl,hF,.inr ⟨by rw [top_bad hb];exact wrong_nn,by rw [top_bad hb];rfl⟩⟩;(try simp only [List.nil_append] at hC);replace C:Hid _:=hC;have HB:Hid ((top E.zs E.T).2.2.bad<0∧(top E.zs E.T).1=[l1]):=⟨hb,hl⟩;clear hC hb ha hl)
  |(go_at_call 42;refine (C.out.atEnd).mono ?_;rintro e w1 (⟨hb,rfl,hC⟩|⟨hb,rfl,hC⟩) <;> (replace C:Hid _:=hC) <;> (have HO:Hid (_=_):=hb) <;> clear hC hb)
  |(go_at_call 43;refine (C.out.fail).mono ?_;rintro e w1 ⟨rfl,hF⟩;exact ⟨rfl,hF,.inr ⟨by rw [top_over HO.out HB.out.1];exact wrong_nn,by rw [top_over HO.out HB.out.1];rfl⟩⟩))
 go_returns
 have e:=top_end HO.out
 have hat:=C.out.ip.2.2.2.1
 have hmn:=C.out.ir.many
 have hgd:=(ps.gd_at (ps.pz_gd E.zs E.T (20*E.T.length+40) 11 0 [] s0 (by decide) HN.out)).2
 have hl:(pz E.zs E.T (20*E.T.length+40) 11 0 [] s0).1=[l1]:=HB.out.2
 rw [hl,ps.tot_single,ps.tot_nil] at hgd
 have hd:ps.dD 11≤100:=by decide
 exact ⟨C.out.fq,.inl ⟨by rw [e];exact HB.out.1,_,rfl,l1,HB.out.2,by rw [e],by omega,C.out.ret⟩⟩
end ip
end Go.Proofs.YtkmiagkehcflnaaGreatDoor
