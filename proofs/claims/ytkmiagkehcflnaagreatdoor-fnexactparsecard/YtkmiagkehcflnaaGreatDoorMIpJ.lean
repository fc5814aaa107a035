import Derived.Test.YtkmiagkehcflnaaGreatDoorMPsSim
import Derived.Test.YtkmiagkehcflnaaGreatDoorMIpH
set_option linter.unusedVariables false
set_option linter.unusedSimpArgs false
set_option maxRecDepth 100000
set_option maxHeartbeats 8000000
namespace Go.Proofs.YtkmiagkehcflnaaGreatDoor
namespace ip
open Go.RowKit bts nod lex tk vt
open ps (En Ps isP kindP now wrong want got nameT nameS textOf over up_fq own_far bel_alloc pz need need_or cOk ends names starts named bare longer)
theorem sc_bd (base:Int):∀(l:List Int) (v u:Int),-9223372036854775808≤v∧v≤9223372036854775807→scn.sc base v l=some u→-9223372036854775808≤u∧u≤9223372036854775807
 |[],v,u,hv,h=>by
  simp only [scn.sc,Option.some.injEq] at h
  omega
 |c::cs,v,u,hv,h=>by
  rw [scn.sc] at h
  split at h
  ·cases h
  ·exact sc_bd base cs _ u (by unfold wrap64;omega) h
theorem res_bd (n:Nat) (o:Option Int) (h:∀v,o=some v→-9223372036854775808≤v∧v≤9223372036854775807):-9223372036854775808≤(scn.res n o).1∧(scn.res n o).1≤9223372036854775807:=by
 cases o with
 |none=>simp [scn.res]
 |some v =>
  have:=h v rfl
  rw [scn.res]
  by_cases h40:40<n
  ·rw [if_pos h40];simp
  ·rw [if_neg h40];exact this
theorem scan_bd (zs:List Int):-9223372036854775808≤(scn.scan zs).1∧(scn.scan zs).1≤9223372036854775807:=by
 unfold scn.scan
 split
 ·split
  ·exact ⟨by decide,by decide⟩
  ·exact res_bd _ _ (fun v h=>sc_bd _ _ _ _ (by omega) h)
 ·split
  ·exact ⟨by decide,by decide⟩
  ·exact res_bd _ _ (fun v h=>sc_bd _ _ _ _ (by omega) h)
section
variable {E:En} {w W W':World} {g m:Nat} {un v x u:Value} {nms:List (List Int)} {us xs:List Value} {ks ls:List (List Nd)} {s s':Ps} {l:List Nd} {tx:List Int} {r:List (List Nd)×Int×Ps}
theorem Cz.longer (C:Cz E w g un nms v m us ks W s) (b:Bool):Cz E w g un nms v m us ks W (ps.longer s b):=⟨C.ir,C.ip,C.fq,C.hg,C.row,C.mid⟩
theorem OwT.rd {B M:Nat} (h:OwT W B M u tx):∃a c,u=.slice a tx.length c∧tx.length≤c∧c≤9223372036854775807∧Rd W a tx∧(0<tx.length→∃gg,a=some ⟨gg,0,none⟩):=by
 rcases h.1.2 with ⟨rfl,e⟩|⟨gg,cap,cur,rfl,hb,hh,h1,h2,_⟩
 ·exact ⟨none,0,by rw [e],by omega,by omega,fun i hi=>by omega,fun h=>by omega⟩
 ·refine ⟨_,_,rfl,h1,by unfold maxLen at h2;omega,fun i hi=>⟨gg,0,rfl,?_⟩,fun _=>⟨gg,rfl⟩⟩
  have:=h.1.cells rfl i (.int .u8 (tx.getD i 0)) (by simp [bcells,List.getElem?_eq_getElem hi,List.getD_eq_getElem?_getD])
  rwa [plainAt] at this
theorem now_len (hI:Ir E) (h:Ip E W g s):(nums (now E.zs E.T s)).length≤6000∧Bts (nums (now E.zs E.T s)):=by
 rw [h.now,nums_str (lex.part_bts hI.bts _ _)]
 have:=hI.fits h.2.2.2.1
 have:=hI.size
 exact ⟨by rw [lex.part_len (hI.fits h.2.2.2.1)];omega,lex.part_bts hI.bts _ _⟩
theorem tab_at {f:Nat} (h:isP E.zs E.T s {data:=#[123]}=true) (hn:need E.T 9 s≤f):(got E.zs E.T s {data:=#[123]}).at_≤(pz E.zs E.T f 9 0 [] s).2.2.at_:=by
 cases f with
 |zero =>
  have h1:=ps.is_bad h
  rw [need_ok _ h1.1] at hn
  simp only [cOk] at hn
  omega
 |succ f =>
  have h1:=ps.is_bad h
  have h2:=(ps.got_yes h).1
  have e:want E.zs E.T s {data:=#[123]}=got E.zs E.T s {data:=#[123]}:=(got_want h).symm
  rw [need_ok _ h1.1] at hn
  simp only [cOk] at hn
  have h3:=(ps.gd_at (ps.pz_gd E.zs E.T f 10 0 [] (got E.zs E.T s {data:=#[123]}) (by decide) (by rw [need_ok _ (by rw [(ps.got_yes h).2];exact h1.1)];simp only [cOk];omega))).1
  have h4:=ps.want_at E.zs E.T (pz E.zs E.T f 10 0 [] (got E.zs E.T s {data:=#[123]})).2.2 {data:=#[125]}
  rw [ps.pz_9]
  unfold ps.pB9
  dsimp only
  rw [e]
  omega
theorem now_pos (hI:Ir E) (h:Ip E W g s) {k:Int} (hk:kindP E.T s=k) (h0:¬k=0):0<(nums (now E.zs E.T s)).length:=by
 have hlt:=(ps.kind_bad hk h0).2
 rw [h.now,nums_str (lex.part_bts hI.bts _ _),lex.part_len (hI.fits h.2.2.2.1),tok_lt hlt]
 exact (toks_at hI.ord hlt).1
theorem Cz.suf (C:Cz E w g un nms v m us ks W s) {f:Nat} (A:Ia E f) (hn:need E.T 4 s≤f) :
  Calls Tryz.prog 121 #[.pointer (some ⟨g,0,none⟩)] W fun e w'=>((pz E.zs E.T f 4 0 [] s).2.2.bad<0∧s.at_≤(pz E.zs E.T f 4 0 [] s).2.2.at_∧∃T gg l,e=.returned (.tuple #[.iface T (.pointer (some ⟨gg,0,none⟩)),.int .i64 (fm (pz E.zs E.T f 4 0 [] s).2.1)])∧(pz E.zs E.T f 4 0 [] s).1=[l]∧Cz E w g un nms v m (us++[.iface T (.pointer (some ⟨gg,0,none⟩))]) (ks++[l]) w' (pz E.zs E.T f 4 0 [] s).2.2)∨(0≤(pz E.zs E.T f 4 0 [] s).2.2.bad∧e=.panicked (flt (pz E.zs E.T f 4 0 [] s).2.2.bad)∧Fq g w w') :=
 (A.suf s hn W g C.ip).mono (by
  rintro e w' ⟨hF,⟨hb,u,rfl,x,l,rfl,h1,h2,h3⟩|⟨hb,rfl⟩⟩
  ·obtain ⟨T,gg,rfl⟩:=h2.isI
   exact .inl ⟨hb,(ps.gd_at (ps.pz_gd E.zs E.T f 4 0 [] s (by decide) hn)).1,T,gg,l,rfl,h1,C.push hF h3 h2⟩
  ·exact .inr ⟨hb,rfl,C.fq.trans hF⟩)
end
theorem sim_next {E:En} (hI:Ir E) {f:Nat} (A:Ia E f) (s:Ps) (hn:need E.T 3 s≤f+1):Nod E 131 ag1 s (pz E.zs E.T (f+1) 3 0 [] s):=by
 intro w g hP
 have C:Hid (Cz E w g nil [] nil 0 [] [] w s):=Cz.start hI hP
 have K:Hid (20*(E.T.length-s.at_)+4≤f+1∧s.at_≤E.T.length∧s.bad<0):=⟨by rw [need_ok 3 hP.2.2.2.2] at hn;exact hn,hP.2.2.2.1,hP.2.2.2.2⟩
 have HA:Hid (Ia E f):=A
 have HI:Hid (Ir E):=hI
 have c1:w.cell? ⟨g,1,none⟩=some (.slice E.tv (E.T.length+1) E.tc):=hP.2.2.1.at (j:=1) (by omega)
 have c2:w.cell? ⟨g,2,none⟩=some (.int .i64 (s.at_:Int)):=hP.c2
 have d3:(s.at_:Int)<((E.T.length+1:Nat):Int):=by have:=hP.2.2.2.1;omega
 obtain ⟨gT,e,t0,_,_⟩:=hI.toks.below hP.1 s.at_ (by have:=hP.2.2.2.1;simp;omega)
 change w.cell? _=some (.int .i64 (tok E s.at_).1) at t0
 rw [e] at c1
 rw [← hP.kind] at t0
 obtain ⟨kd,hkd⟩:∃kd,kindP E.T s=kd:=⟨_,rfl⟩
 rw [hkd] at t0
 obtain ⟨nT,hnT⟩:∃nT,nT=E.T.length+1:=⟨_,rfl⟩
 rw [← hnT] at c1 d3
 have HK:Hid (kindP E.T s=kd):=hkd
 clear hn hI A hP e hkd hnT
 unfold ag1
 by_cases h2:kd=2
 ·subst h2
  have KE:Hid (∀t,isP E.zs E.T s t=false):=fun t=>kind_else HK.out (by decide) (by decide)
  have HR:Hid (pz E.zs E.T (f+1) 3 0 [] s=([[⟨14,(scn.scan (nums (now E.zs E.T s))).1,[],[],0⟩]],0,ps.step s)):=by
   show _=_
   have k:=KE.out
   have kx:=HK.out
   simp only [ps.pz_3,ps.pB3,k,kx,if_true,if_false,Bool.false_eq_true]
  have SB:=scan_bd (nums (now E.zs E.T s))
  generalize pz E.zs E.T (f+1) 3 0 [] s=r at HR ⊢
  clear KE
  go_enter Tryz.func131,Tryz.ntmps131
  go_wp2_with fail
  go_quiet (fail)
  rename Nat=>n1
  have C1:Hid _:=(C.out.bel (tk.bel_drewN (Below.refl _ _) n1)).1
  clear c1 c2 t0 C
  go_wp2_with (first
   |(go_at_call 116;refine (take_yes HI.out C1.out.ip HK.out (by decide)).mono ?_;rintro e w1 ⟨a1,q1,rfl,hT,hP,hF⟩;have TL:=now_len HI.out C1.out.ip;obtain ⟨a2,q2,e2,hcap,hmx,hrd,hz⟩:=hT.rd;have C2:Hid _:=C1.out.to hF hP;have hn0:=now_pos HI.out C1.out.ip HK.out (by decide);obtain ⟨gg,rfl⟩:=hz hn0;simp only [Value.slice.injEq] at e2;obtain ⟨rfl,_,rfl⟩:=e2;have SC:Hid (Calls Tryz.prog 79 #[.slice (some ⟨gg,0,none⟩) (nums (now E.zs E.T s)).length q1] w1 _):=(scn.scan_any gg 0 q1 (nums (now E.zs E.T s)) TL.2 w1 hrd hcap hmx (by omega)).2;clear TL hcap hmx hrd hz hT hP hF hn0)
   |(go_at_call 79;refine SC.out.mono ?_;rintro e w2 ⟨rfl,rfl⟩)
   |(go_at_call 84;refine (C2.out.leaf0 (by decide) SB).mono ?_;rintro e w3 ⟨T1,g1,rfl,hC⟩;simp only [List.nil_append] at hC;have C3:Hid _:=hC;clear hC))
  go_returns
  exact C3.out.done (by rw [HR.out]) (by rw [HR.out])
 ·by_cases h3:kd=3
  ·subst h3
   have KE:Hid (∀t,isP E.zs E.T s t=false):=fun t=>kind_else HK.out (by decide) (by decide)
   have HR:Hid (pz E.zs E.T (f+1) 3 0 [] s=([[⟨15,0,lit.unqText (nums (now E.zs E.T s)),[],0⟩]],0,ps.longer (ps.step s) (decide (5000<(lit.unqText (nums (now E.zs E.T s))).length)))):=by
    show _=_
    have k:=KE.out
    have kx:=HK.out
    simp only [ps.pz_3,ps.pB3,k,kx,if_true,if_false,Bool.false_eq_true,show ¬((3:Int)=2) by decide]
   generalize pz E.zs E.T (f+1) 3 0 [] s=r at HR ⊢
   clear KE
   go_enter Tryz.func131,Tryz.ntmps131
   go_wp2_with fail
   go_quiet (fail)
   rename Nat=>n1
   have C1:Hid _:=(C.out.bel (tk.bel_drewN (Below.refl _ _) n1)).1
   clear c1 c2 t0 C
   go_wp2_with (first
    |(go_at_call 116;refine (take_yes HI.out C1.out.ip HK.out (by decide)).mono ?_;rintro e w1 ⟨a1,q1,rfl,hT,hP,hF⟩;have TL:=now_len HI.out C1.out.ip;obtain ⟨a2,q2,e2,hcap,hmx,hrd,hz⟩:=hT.rd;have C2:Hid _:=C1.out.to hF hP;have hn0:=now_pos HI.out C1.out.ip HK.out (by decide);obtain ⟨gg,rfl⟩:=hz hn0;simp only [Value.slice.injEq] at e2;obtain ⟨rfl,_,rfl⟩:=e2;have UL:=lit.unqText_len TL.2;have UB:Hid (Bts (lit.unqText (nums (now E.zs E.T s)))):=ps.unq_bts TL.2;have SC:Hid (Calls Tryz.prog 132 #[.slice (some ⟨gg,0,none⟩) (nums (now E.zs E.T s)).length q1] w1 _):=(lit.implUnq_any gg q1 _ (nums (now E.zs E.T s)) w1 TL.2 rfl hrd hcap hmx (by omega));have UL2:(lit.unqText (nums (now E.zs E.T s))).length≤1048576:=(by omega);clear UL TL hcap hmx hrd hz hT hP hF hn0)
    |(go_at_call 132;refine SC.out.mono ?_;rintro e w2 ⟨hb,ao,q2,rfl,ho⟩;have Q2:Hid (OwT w2 w1.heap.size w2.heap.size (.slice ao (lit.unqText (nums (now E.zs E.T s))).length q2) (lit.unqText (nums (now E.zs E.T s)))∧Below w1.heap.size w1 w2):=⟨⟨ho,fun b e=>(ho.lt b e).2,UB.out⟩,hb⟩;clear hb ho)
    |(go_at_call 84;refine (C2.out.leaf Q2.out.1 (C2.out.ip.keep Q2.out.2) (.of (Nat.le_of_lt C2.out.ip.lt) Q2.out.2) (by decide) (by decide) UL2).mono ?_;rintro e w3 ⟨T1,g1,rfl,hC⟩;simp only [List.nil_append] at hC;have C3:Hid _:=hC;clear hC))
   go_returns
   exact (C3.out.longer _).done (by rw [HR.out]) (by rw [HR.out])
  ·have e2:(kd==2)=false:=by simp;exact h2
   have e3:(kd==3)=false:=by simp;exact h3
   have KX:Hid (¬kindP E.T s=2∧¬kindP E.T s=3):=by show _∧_;rw [HK.out];exact ⟨h2,h3⟩
   go_enter Tryz.func131,Tryz.ntmps131
   go_wp2_with fail
   go_quiet (fail)
   rename Nat=>n1
   have C1:Hid _:=(C.out.bel (tk.bel_drewN (Below.refl _ _) n1)).1
   replace C:Hid _:=C1.out
   replace K:Hid (_∧_∧_):=⟨KX.out.1,KX.out.2,K.out⟩
   clear c1 c2 t0 C1 KX HK
   go_wp2_with (first
    |(go_at_call 83;refine (C.out.accepts (by kernel_rfl)).mono ?_;rintro e w1 (⟨hb,ha,rfl,hC⟩|⟨hb,rfl,hC⟩) <;> (replace C:Hid _:=hC) <;> (first|replace K:Hid (_∧_∧_):=⟨hb,ha,K.out⟩|replace K:Hid (_∧_):=⟨hb,K.out⟩) <;> clear hC hb)
    |(go_at_call 117;refine (C.out.cal (by decide) (HA.out.fun_ _) (by have k:=K.out;have c:=C.out.ip.2.2.2;rw [need_ok _ c.2];simp only [cOk];omega)).mono ?_;rintro e w1 (⟨hb,ha,T1,g1,l1,rfl,hl,hC⟩|⟨hb,rfl,hF⟩);rotate_left;exact ⟨rfl,dead hF hb (by have k:=K.out;simp (maxDischargeDepth:=20) only [ps.pz_3,ps.pB3,k,is_off,want_bd,names_off,name_bd,pz_off,sl_bad,hb,if_true,if_false,Bool.false_eq_true])⟩;simp only [List.nil_append,List.cons_append] at hC;replace C:Hid _:=hC;replace K:Hid (_∧_∧_∧_):=⟨hb,ha,hl,K.out⟩;clear hC hb ha hl)
    |(go_at_call 133;refine (C.out.call (HA.out.tab s K.out.1 (by have k:=K.out;rw [need_ok _ k.2.2.2.2.2.2.2.2.2.2];simp only [cOk];omega)) (tab_at K.out.1 (by have k:=K.out;rw [need_ok _ k.2.2.2.2.2.2.2.2.2.2];simp only [cOk];omega))).mono ?_;rintro e w1 (⟨hb,ha,T1,g1,l1,rfl,hl,hC⟩|⟨hb,rfl,hF⟩);rotate_left;exact ⟨rfl,dead hF hb (by have k:=K.out;simp (maxDischargeDepth:=20) only [ps.pz_3,ps.pB3,k,is_off,want_bd,names_off,name_bd,pz_off,sl_bad,hb,if_true,if_false,Bool.false_eq_true])⟩;simp only [List.nil_append] at hC;replace C:Hid _:=hC;replace K:Hid (_∧_∧_):=⟨hb,hl,K.out⟩;clear hC hb ha hl)
    |(go_at_call 121;refine (C.out.suf HA.out (by have k:=K.out;have c:=C.out.ip.2.2.2;rw [need_ok _ c.2];simp only [cOk];omega)).mono ?_;rintro e w1 (⟨hb,ha,T1,g1,l1,rfl,hl,hC⟩|⟨hb,rfl,hF⟩);rotate_left;exact ⟨rfl,dead hF hb (by have k:=K.out;simp (maxDischargeDepth:=20) only [ps.pz_3,ps.pB3,k,is_off,want_bd,names_off,name_bd,pz_off,sl_bad,hb,if_true,if_false,Bool.false_eq_true])⟩;simp only [List.nil_append] at hC;replace C:Hid _:=hC;replace K:Hid (_∧_∧_):=⟨hb,hl,K.out⟩;clear hC hb ha hl)
    |(go_at_call 84;refine (C.out.bare (by decide) (by decide) (by decide)).mono ?_;rintro e w1 ⟨T1,g1,rfl,hC,hF⟩;replace C:Hid _:=hC;clear hC hF))
   all_goals
    go_returns
    exact C.out.done (by have k:=K.out;simp only [ps.pz_3,ps.pB3,k,if_true,if_false,Bool.false_eq_true] <;> rfl) (by have k:=K.out;simp only [ps.pz_3,ps.pB3,k,if_true,if_false,Bool.false_eq_true])
end ip
namespace ip
open Go.RowKit bts nod lex tk vt
open ps (En Ps isP kindP now wrong want got nameT nameS textOf over up_fq own_far bel_alloc pz need need_or cOk ends names starts named bare longer)
def keyz (zs:List Int) (T:List (Int×Nat×Nat)) (f:Nat) (s:Ps):Option (List (List Nd))×Ps :=
 if isP zs T s {data:=#[91]} then (some (pz zs T f 0 1 [] (got zs T s {data:=#[91]})).1,want zs T (want zs T (pz zs T f 0 1 [] (got zs T s {data:=#[91]})).2.2 {data:=#[93]}) {data:=#[61]})
 else if named zs T s then (some [[⟨15,0,nameT zs T s,[],0⟩]],want zs T (nameS zs T s) {data:=#[61]})
 else (none,s)
def Kval (ks:Option (List (List Nd))) (w w':World) (v:Value):Prop :=
 match ks with
 |none=>v=.nilIface
 |some k=>∃l,k=[l]∧Nv (tk.lt w.heap.size) w' w.heap.size w'.heap.size v l
def Py (E:En) (r:Option (List (List Nd))×Ps) (g:Nat) (w:World):Ending→World→Prop :=
 Px r.2 g w fun v w'=>Kval r.1 w w' v∧Ip E w' g r.2
section
variable {E:En} {w W:World} {g m:Nat} {un v x:Value} {nms:List (List Int)} {l:List Nd} {s:Ps} {r:Option (List (List Nd))×Ps}
theorem Cz.doneY (C:Cz E w g un nms v m [x] [l] W s) (h:r=(some [l],s)):Py E r g w (.returned x) W:=by
 subst h
 exact ⟨C.fq,.inl ⟨C.ip.2.2.2.2,x,rfl,⟨l,rfl,C.ret⟩,C.ip⟩⟩
theorem Cz.doneN (C:Cz E w g un nms v m [] [] W s) (h:r=(none,s)):Py E r g w (.returned .nilIface) W:=by
 subst h
 exact ⟨C.fq,.inl ⟨C.ip.2.2.2.2,_,rfl,rfl,C.ip⟩⟩
theorem dy {b:Int} (hF:Fq g w W) (hb:0≤b) (h:r.2.bad=b):Py E r g w (.panicked (flt b)) W:=⟨hF,.inr ⟨by omega,by rw [h]⟩⟩
end
theorem named_eq {E:En} {w:World} {g:Nat} {s:Ps} (hI:Ir E) (h:Ip E w g s) (hk:kindP E.T s=1):named E.zs E.T s=((strOfNums (lex.part E.zs (tok E (s.at_+1)).2.1 (tok E (s.at_+1)).2.2)).toList==[61]):=by
 have hlt:=(ps.kind_bad hk (by decide)).2
 unfold ps.named
 rw [decide_eq_true hk,Bool.true_and]
 rcases Nat.lt_or_ge (s.at_+1) E.T.length with h1|h1
 ·rw [decide_eq_true h1,Bool.true_and,tok_lt h1,toList_mk ({data:=#[61]}:ByteArray)]
  rfl
 ·rw [decide_eq_false (by omega),show s.at_+1=E.T.length by omega,tok_end]
  simp [lex.part,str_list]
theorem named_no {zs:List Int} {T:List (Int×Nat×Nat)} {s:Ps} (hk:¬kindP T s=1):named zs T s=false:=by
 unfold ps.named
 rw [decide_eq_false hk]
 rfl
theorem key_any {E:En} (hI:Ir E) {f:Nat} (A:Ia E f) (s:Ps) (hn:isP E.zs E.T s {data:=#[91]}=true→need E.T 0 (got E.zs E.T s {data:=#[91]})≤f) (w:World) (g:Nat) (hP:Ip E w g s):Calls Tryz.prog 134 (ag1 g) w (Py E (keyz E.zs E.T f s) g w):=by
 have C:Hid (Cz E w g nil [] nil 0 [] [] w s):=Cz.start hI hP
 have HN:Hid (isP E.zs E.T s {data:=#[91]}=true→need E.T 0 (got E.zs E.T s {data:=#[91]})≤f):=hn
 have K:Hid (s.at_≤E.T.length∧s.bad<0):=⟨hP.2.2.2.1,hP.2.2.2.2⟩
 have HA:Hid (Ia E f):=A
 have HI:Hid (Ir E):=hI
 have hs6:=hP.small hI
 clear hn hI A hP
 unfold ag1
 go_enter Tryz.func134,Tryz.ntmps134
 go_wp2_with (first
  |(go_at_call 83;refine (C.out.accepts (by kernel_rfl)).mono ?_;rintro e w1 (⟨hb,ha,rfl,hC⟩|⟨hb,rfl,hC⟩) <;> (replace C:Hid _:=hC) <;> (first|replace K:Hid (_∧_∧_):=⟨hb,ha,K.out⟩|replace K:Hid (_∧_):=⟨hb,K.out⟩) <;> clear hC hb)
  |(go_at_call 105;refine (C.out.cal (by decide) (expr_any HI.out HA.out _) (HN.out K.out.1)).mono ?_;rintro e w1 (⟨hb,ha,T1,g1,l1,rfl,hl,hC⟩|⟨hb,rfl,hF⟩);rotate_left;exact ⟨rfl,dy hF hb (by have k:=K.out;simp (maxDischargeDepth:=20) only [keyz,k,is_off,want_bd,name_bd,pz_off,hb,if_true,if_false,Bool.false_eq_true])⟩;simp only [List.nil_append] at hC;replace C:Hid _:=hC;replace K:Hid (_∧_∧_∧_):=⟨hb,ha,hl,K.out⟩;clear hC hb ha hl)
  |(go_at_call 106;refine (C.out.expect (by kernel_rfl)).mono ?_;rintro e w1 (⟨hb,ha,⟨u,rfl⟩,hC⟩|⟨hb,rfl,hF⟩);rotate_left;exact ⟨rfl,dy hF hb (by have k:=K.out;simp (maxDischargeDepth:=20) only [keyz,k,is_off,want_bd,name_bd,pz_off,hb,if_true,if_false,Bool.false_eq_true])⟩;replace C:Hid _:=hC;replace K:Hid (_∧_∧_):=⟨hb,ha,K.out⟩;clear hC hb ha))
 ·go_returns
  exact C.out.doneY (by have k:=K.out;simp only [keyz,k,if_true])
 ·have hP:=C.out.ip
  have hI:=HI.out
  have c1:w1.cell? ⟨g,1,none⟩=some (.slice E.tv (E.T.length+1) E.tc):=hP.2.2.1.at (j:=1) (by omega)
  have c2:w1.cell? ⟨g,2,none⟩=some (.int .i64 (s.at_:Int)):=hP.c2
  have d3:(s.at_:Int)<((E.T.length+1:Nat):Int):=by have:=hP.2.2.2.1;omega
  obtain ⟨gT,e,t0,_,_⟩:=hI.toks.below hP.1 s.at_ (by have:=hP.2.2.2.1;simp;omega)
  change w1.cell? _=some (.int .i64 (tok E s.at_).1) at t0
  rw [e] at c1
  rw [← hP.kind] at t0
  obtain ⟨kd,hkd⟩:∃kd,kindP E.T s=kd:=⟨_,rfl⟩
  rw [hkd] at t0
  by_cases h1:kd=1
  ·subst h1
   have hlt:=(ps.kind_bad hkd (by decide)).2
   have hf:=hI.fits (k:=s.at_+1) (by omega)
   have hnm:=named_eq hI hP hkd
   obtain ⟨gT2,e2,u0,u1,u2⟩:=hI.toks.below hP.1 (s.at_+1) (by simp;omega)
   change w1.cell? _=some (.int .i64 (tok E (s.at_+1)).1) at u0
   change w1.cell? _=some (.int .i64 ((tok E (s.at_+1)).2.1:Int)) at u1
   change w1.cell? _=some (.int .i64 ((tok E (s.at_+1)).2.2:Int)) at u2
   have e3:gT2=gT:=by rw [e] at e2;simpa using e2.symm
   rw [e3] at u0 u1 u2
   have B:Hid (∀W,Below w1.heap.size w1 W→Calls Tryz.prog 102 #[.pointer (some ⟨g,0,none⟩),.agg #[.int .i64 (tok E (s.at_+1)).1,.int .i64 (tok E (s.at_+1)).2.1,.int .i64 (tok E (s.at_+1)).2.2]] W fun e w'=>e=.returned (.slice (bo E (tok E (s.at_+1)).2.1) (tok E (s.at_+1)).2.2 (E.sc-(tok E (s.at_+1)).2.1))∧Below W.heap.size W w'):=fun W hW=>bytesOf_any hI (hP.keep hW) _ hf
   have V:Hid (∀W,Below w1.heap.size w1 W→(convert 22 9 (.slice (bo E (tok E (s.at_+1)).2.1) (tok E (s.at_+1)).2.2 (E.sc-(tok E (s.at_+1)).2.1))).run Tryz.prog W=.ok (.string (strOfNums (lex.part E.zs (tok E (s.at_+1)).2.1 (tok E (s.at_+1)).2.2))) W):=fun W hW=>conv_bo hI (hP.keep hW).1 hf
   generalize strOfNums (lex.part E.zs (tok E (s.at_+1)).2.1 (tok E (s.at_+1)).2.2)=x at V hnm
   generalize bo E (tok E (s.at_+1)).2.1=bv at B V
   generalize E.sc-(tok E (s.at_+1)).2.1=bc at B V
   generalize (tok E (s.at_+1)).1=tk0 at B u0
   generalize (tok E (s.at_+1)).2.1=ta at B u1 hf
   generalize (tok E (s.at_+1)).2.2=tn at B V u2 hf
   obtain ⟨nT,hnT⟩:∃nT,nT=E.T.length+1:=⟨_,rfl⟩
   rw [← hnT] at c1 d3
   have hw:IntKind.i64.wrap ((s.at_:Int)+1)=((s.at_+1:Nat):Int):=by go_arith
   obtain ⟨k1,hk1⟩:∃k,s.at_+1=k:=⟨_,rfl⟩
   rw [hk1] at u0 u1 u2 hw
   have i1:(k1:Int)<(nT:Int):=by omega
   have HC:Hid (∀W,Below w1.heap.size w1 W→W.cell? ⟨g,1,none⟩=some (.slice (some ⟨gT,0,none⟩) nT E.tc)∧W.cell? ⟨g,2,none⟩=some (.int .i64 (s.at_:Int))∧W.cell? ⟨gT,s.at_*3,none⟩=some (.int .i64 1)∧W.cell? ⟨gT,k1*3,none⟩=some (.int .i64 tk0)∧W.cell? ⟨gT,k1*3+1,none⟩=some (.int .i64 (ta:Int))∧W.cell? ⟨gT,k1*3+2,none⟩=some (.int .i64 (tn:Int))∧(convert 22 9 (.slice bv tn bc)).run Tryz.prog W=.ok (.string x) W):=fun W hW=>⟨cellB c1 hW,cellB c2 hW,cellB t0 hW,cellB u0 hW,cellB u1 hW,cellB u2 hW,V.out W hW⟩
   have HKN:Hid (kindP E.T s=1):=hkd
   clear e e2 e3 hf hnT hk1 hs6 hlt c1 c2 t0 u0 u1 u2 V hP hI hkd
   cases hx:(x.toList==[61])
   all_goals
    rw [hx] at hnm
    replace K:Hid (_∧_):=⟨hnm,K.out⟩
    clear hnm
    go_region_held3 (fun W=>W.cell? ⟨g,1,none⟩=some (.slice (some ⟨gT,0,none⟩) nT E.tc)∧W.cell? ⟨g,2,none⟩=some (.int .i64 (s.at_:Int))∧W.cell? ⟨gT,s.at_*3,none⟩=some (.int .i64 1)∧W.cell? ⟨gT,k1*3,none⟩=some (.int .i64 tk0)∧W.cell? ⟨gT,k1*3+1,none⟩=some (.int .i64 (ta:Int))∧W.cell? ⟨gT,k1*3+2,none⟩=some (.int .i64 (tn:Int))∧(convert 22 9 (.slice bv tn bc)).run Tryz.prog W=.ok (.string x) W) (first|exact HC.out _ (by repeat (first|exact Below.refl _ _|exact HB1.out|refine Below.drew ?_|refine tk.bel_drewN ?_ _))) ((go_at_call 102;refine (B.out _ (by repeat (first|exact Below.refl _ _|exact HB1.out|refine Below.drew ?_|refine tk.bel_drewN ?_ _))).mono ?_;rintro e w2 ⟨rfl,hb⟩;have HB1:Hid (Below w1.heap.size w1 w2):=bt hb (by repeat (first|exact Below.refl _ _|exact HB1.out|refine Below.drew ?_|refine tk.bel_drewN ?_ _));clear hb))
   ·go_wp2_with fail
    go_returns
    exact (C.out.bel HB1.out).1.doneN (by have k:=K.out;simp only [keyz,k,if_false,Bool.false_eq_true])
   ·replace C:Hid _:=(C.out.bel HB1.out).1
    clear HB1 HC B
    go_wp2_with (first
     |(go_at_call 116;refine (C.out.take).mono ?_;rintro e w3 (⟨hb,ha,hk,a1,c1,rfl,hT,hP,hF⟩|⟨hb,rfl,hF⟩);rotate_left;exact ⟨rfl,dy hF hb (by have k:=K.out;simp (maxDischargeDepth:=20) only [keyz,k,is_off,want_bd,name_bd,pz_off,hb,if_true,if_false,Bool.false_eq_true])⟩;have Q:Hid (_∧_∧_∧_):=⟨hT,hP,hF,text_len HI.out C.out.ip.2.2.2.1⟩;replace K:Hid (_∧_∧_):=⟨hb,ha,K.out⟩;clear hb ha hk hT hP hF)
     |(go_at_call 84;refine (C.out.leaf Q.out.1 Q.out.2.1 Q.out.2.2.1 (by decide) (by decide) Q.out.2.2.2).mono ?_;clear Q;rintro e w4 ⟨T2,g2,rfl,hC⟩;simp only [List.nil_append] at hC;replace C:Hid _:=hC;clear hC)
     |(go_at_call 106;refine (C.out.expect (by kernel_rfl)).mono ?_;rintro e w5 (⟨hb,ha,⟨u,rfl⟩,hC⟩|⟨hb,rfl,hF⟩);rotate_left;exact ⟨rfl,dy hF hb (by have k:=K.out;simp (maxDischargeDepth:=20) only [keyz,k,is_off,want_bd,name_bd,pz_off,hb,if_true,if_false,Bool.false_eq_true])⟩;replace C:Hid _:=hC;replace K:Hid (_∧_∧_):=⟨hb,ha,K.out⟩;clear hC hb ha))
    go_returns
    exact C.out.doneY (by have k:=K.out;simp only [keyz,k,if_true,if_false,Bool.false_eq_true])
  ·have e1:(kd==1)=false:=by simp;exact h1
   have hnm:named E.zs E.T s=false:=named_no (by rw [hkd];exact h1)
   replace K:Hid (_∧_):=⟨hnm,K.out⟩
   obtain ⟨nT,hnT⟩:∃nT,nT=E.T.length+1:=⟨_,rfl⟩
   rw [← hnT] at c1 d3
   clear hnm hkd hI hP e hnT
   have e2:(kd != 1)=true:=by simp [h1]
   go_quiet (fail)
   rename Nat=>n1
   go_wp2_with fail
   go_returns
   exact (C.out.bel (tk.bel_drewN (Below.refl _ _) n1)).1.doneN (by have k:=K.out;simp only [keyz,k,if_false,Bool.false_eq_true])
end ip
end Go.Proofs.YtkmiagkehcflnaaGreatDoor
