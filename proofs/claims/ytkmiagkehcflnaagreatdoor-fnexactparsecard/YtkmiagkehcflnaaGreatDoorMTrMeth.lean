import Derived.Test.YtkmiagkehcflnaaGreatDoorMTrLc
set_option maxRecDepth 100000
set_option maxHeartbeats 8000000
namespace Go.Proofs.YtkmiagkehcflnaaGreatDoor
namespace vt
open Go.RowKit bts nod lex
theorem cell_al {w:World} {a:Addr} {v:Value} (o:Obj) (h:w.cell? a=some v):(w.alloc o).cell? a=some v:=(((Below.refl w.heap.size w).alloc (Nat.le_refl _) o).cell (p:=a) (World.block_lt_of_cell? _ _ h)).trans h
theorem fld0 (kd nn ct:Int) (u1 u2:Value) (W:World):(Instr.field 61 (.agg #[.int .i64 kd,.int .i64 nn,u1,u2,.int .i64 ct]) 0).run Tryz.prog W=.ok (.int .i64 kd) W:=by kernel_rfl
theorem m_row {k:Int} (h0:0≤k) (h26:k≤26) (g:Nat):∀(W:World),(method 381 (ty k) (.pointer (some ⟨g,0,none⟩)) "loop.example/s02245/impl.row").run Tryz.prog W=.ok (172,.pointer (some ⟨g,0,none⟩)) W:=by
 refine kinds (P:=fun k=>∀W:World,(method 381 (ty k) (.pointer (some ⟨g,0,none⟩)) "loop.example/s02245/impl.row").run Tryz.prog W=.ok (172,.pointer (some ⟨g,0,none⟩)) W) ?_ h0 h26
 refine ⟨?_,?_,?_,?_,?_,?_,?_,?_,?_,?_,?_,?_,?_,?_,?_,?_,?_,?_,?_,?_,?_,?_,?_,?_,?_,?_,?_⟩ <;> intro W <;> kernel_rfl
theorem m_children {k:Int} (h0:0≤k) (h26:k≤26) (g:Nat):∀(W:World),(method 381 (ty k) (.pointer (some ⟨g,0,none⟩)) "loop.example/s02245/impl.children").run Tryz.prog W=.ok (168,.pointer (some ⟨g,0,none⟩)) W:=by
 refine kinds (P:=fun k=>∀W:World,(method 381 (ty k) (.pointer (some ⟨g,0,none⟩)) "loop.example/s02245/impl.children").run Tryz.prog W=.ok (168,.pointer (some ⟨g,0,none⟩)) W) ?_ h0 h26
 refine ⟨?_,?_,?_,?_,?_,?_,?_,?_,?_,?_,?_,?_,?_,?_,?_,?_,?_,?_,?_,?_,?_,?_,?_,?_,?_,?_,?_⟩ <;> intro W <;> kernel_rfl
theorem row_any (g:Nat) (w:World) (kd nn ct:Int) (at_ an:Option Addr) (p ca q cn:Nat) (c0:w.cell? ⟨g,0,none⟩=some (.int .i64 kd)) (c1:w.cell? ⟨g,1,none⟩=some (.int .i64 nn)) (c2:w.cell? ⟨g,2,none⟩=some (.slice at_ p ca)) (c3:w.cell? ⟨g,3,none⟩=some (.slice an q cn)) (c4:w.cell? ⟨g,4,none⟩=some (.int .i64 ct)) :
  Calls Tryz.prog 172 #[.pointer (some ⟨g,0,none⟩)] w fun e w'=>e=.returned (.agg #[.int .i64 kd,.int .i64 nn,.slice at_ p ca,.slice an q cn,.int .i64 ct])∧Below w.heap.size w w':=by
 have a0:=fun o=>cell_al o c0
 have a1:=fun o=>cell_al o c1
 have a2:=fun o=>cell_al o c2
 have a3:=fun o=>cell_al o c3
 have a4:=fun o=>cell_al o c4
 clear c0 c1 c2 c3 c4
 go_enter Tryz.func172,Tryz.ntmps172
 go_wp2
 go_returns
 refine ⟨rfl,?_⟩
 go_grown
theorem kids_any (g:Nat) (w:World) (ao:Option Addr) (p ca:Nat) (c5:w.cell? ⟨g,5,none⟩=some (.slice ao p ca)) :
  Calls Tryz.prog 168 #[.pointer (some ⟨g,0,none⟩)] w fun e w'=>e=.returned (.slice ao p ca)∧w'=w:=by
 go_enter Tryz.func168,Tryz.ntmps168
 go_wp2
 go_ret
 exact ⟨rfl,rfl⟩
theorem iExpr_any (k:Int) (w:World):Calls Tryz.prog 86 #[.int .i64 k] w fun e w'=>e=.returned (.bool (isExpr k))∧w'=w:=by
 have hc:k<11∨(11≤k∧k≤25)∨25<k:=by omega
 rcases hc with a|⟨a,b⟩|a
 all_goals
  go_enter Tryz.func86,Tryz.ntmps86
  go_wp2
  go_ret
  exact ⟨ret_bool (by first|(rw [isExpr_yes (by omega)];done)|(rw [isExpr_no (by omega)];done)|(rw [isExpr_no (by omega)];simp;omega)|(rw [isExpr_yes (by omega)];simp;omega)),rfl⟩
theorem iStat_any (k:Int) (w:World):Calls Tryz.prog 85 #[.int .i64 k] w fun e w'=>e=.returned (.bool (isStat k))∧w'=w:=by
 have hc:k<1∨(1≤k∧k≤10)∨(10<k∧k<26)∨k=26∨26<k:=by omega
 rcases hc with a|⟨a,b⟩|⟨a,b⟩|rfl|a
 all_goals
  go_enter Tryz.func85,Tryz.ntmps85
  go_wp2
  go_ret
  exact ⟨ret_bool (by first|(rw [isStat_yes (by omega)];done)|(rw [isStat_no (by omega)];done)|(rw [isStat_no (by omega)];simp;omega)|(rw [isStat_yes (by omega)];simp;omega)),rfl⟩
structure Node6 (w:World) (g:Nat) (d:Nd) (ao:Option Addr) (m cap:Nat) (at_ an:Option Addr) (ca cn:Nat):Prop where
 c0:w.cell? ⟨g,0,none⟩=some (.int .i64 d.kind)
 c1:w.cell? ⟨g,1,none⟩=some (.int .i64 d.n)
 c2:w.cell? ⟨g,2,none⟩=some (.slice at_ d.text.length ca)
 c3:w.cell? ⟨g,3,none⟩=some (.slice an d.names.length cn)
 c4:w.cell? ⟨g,4,none⟩=some (.int .i64 d.count)
 c5:w.cell? ⟨g,5,none⟩=some (.slice ao m cap)
theorem Node6.below {w w':World} {g:Nat} {d:Nd} {ao:Option Addr} {m cap:Nat} {at_ an:Option Addr} {ca cn:Nat} (h:Node6 w g d ao m cap at_ an ca cn) (hb:Below w.heap.size w w'):Node6 w' g d ao m cap at_ an ca cn:=by
 have hlt:=World.block_lt_of_cell? _ _ h.c0
 exact ⟨(hb.cell (p:=⟨g,0,none⟩) hlt).trans h.c0,(hb.cell (p:=⟨g,1,none⟩) hlt).trans h.c1,(hb.cell (p:=⟨g,2,none⟩) hlt).trans h.c2,(hb.cell (p:=⟨g,3,none⟩) hlt).trans h.c3,(hb.cell (p:=⟨g,4,none⟩) hlt).trans h.c4,(hb.cell (p:=⟨g,5,none⟩) hlt).trans h.c5⟩
def RepS (w:World) (v:Value) (ts:List Int):Prop :=
 ∃ao cap,v=.slice ao ts.length cap∧ts.length≤cap∧cap≤9223372036854775807∧ts.length≤1048576∧∀k,k<ts.length→∃b off u,ao=some ⟨b,off,none⟩∧w.cell? ⟨b,off+k,none⟩=some u∧∃(D:Nat) (t:Tr D),Rep w u t∧kindT t=ts.getD k 0
theorem RepS.kept {w w':World} {v:Value} {ts:List Int} (h:RepS w v ts) (hb:Below w.heap.size w w'):RepS w' v ts:=by
 obtain ⟨ao,cap,e,h1,h2,h3,h⟩:=h
 refine ⟨ao,cap,e,h1,h2,h3,fun k hk=>?_⟩
 obtain ⟨b,off,u,e,hc,D,t,hr,hk⟩:=h k hk
 exact ⟨b,off,u,e,(hb.cell (p:=⟨b,off+k,none⟩) (World.block_lt_of_cell? _ _ hc)).trans hc,D,t,hr.kept hb,hk⟩
theorem Rep.open:∀{D:Nat} {w:World} {v:Value} {t:Tr D},Rep w v t→∃(g:Nat) (ao:Option Addr) (cap:Nat) (at_ an:Option Addr) (ca cn:Nat),
  v=.iface (ty (dT t).kind) (.pointer (some ⟨g,0,none⟩))∧0≤(dT t).kind∧(dT t).kind≤26∧Node6 w g (dT t) ao (kkT t).length cap at_ an ca cn ∧
  RcV w (.slice at_ (dT t).text.length ca) (dT t).text∧RcVV w (.slice an (dT t).names.length cn) (dT t).names∧(dT t).text.length+sizeSS (dT t).names≤1048576∧RepS w (.slice ao (kkT t).length cap) (kkT t):=by
 intro D
 cases D with
 |zero=>intro w v t h;exact h.elim
 |succ D =>
  rintro w v t ⟨g,ao,cap,ut,un,U,e,hk0,hk1,hlen,hcap,hl6,hn,ht,hm,hsz,hc,hr⟩
  have ht2:=ht
  have hm2:=hm
  obtain ⟨at_,ca,rfl,_⟩:=ht2
  obtain ⟨an,cn,rfl,_⟩:=hm2
  obtain ⟨c0,c1,c2,c3,c4,c5⟩:=hn
  have hl:(kkT t).length=t.2.length:=List.length_map _
  refine ⟨g,ao,cap,at_,an,ca,cn,e,hk0,hk1,⟨c0,c1,c2,c3,c4,by rw [hl];exact c5⟩,ht,hm,hsz,ao,cap,rfl,by omega,hcap,by omega,fun k hk=>?_⟩
  obtain ⟨b,off,eo,h⟩:=hc k (by omega)
  refine ⟨b,off,U k,eo,h,D,t.2.getD k (tr0 D),hr k (by omega),?_⟩
  have hk2:k<t.2.length:=by omega
  show _=(t.2.map kindT).getD k 0
  simp [List.getD_eq_getElem?_getD,List.getElem?_eq_getElem hk2]
theorem takes_any (r:Nat) (hr:r≤5) {D:Nat} {v:Value} {t:Tr D} {w:World} (h:Rep w v t) :
  Calls Tryz.prog 44 #[.int .i64 r,v] w fun e w'=>e=.returned (.bool (takes r (kindT t)))∧Below w.heap.size w w':=by
 obtain ⟨g,ao,cap,at_,an,ca,cn,rfl,hk0,hk1,N,_⟩:=h.open
 clear h
 unfold kindT
 generalize dT t=d at *
 have R:=row_any g w _ _ _ _ _ _ _ _ _ N.c0 N.c1 N.c2 N.c3 N.c4
 have M:=m_row hk0 hk1 g
 have F:=fun W=>fld0 d.kind d.n d.count (.slice at_ d.text.length ca) (.slice an d.names.length cn) W
 have S:=fun W=>iStat_any d.kind W
 have E:=fun W=>iExpr_any d.kind W
 generalize ty d.kind=T at M
 generalize d.kind=kd at *
 generalize d.n=nn at *
 generalize d.count=ct at *
 generalize d.text.length=p at *
 generalize d.names.length=q at *
 clear N hk0 hk1
 have hc:r=0∨r=1∨r=2∨r=3∨r=4∨r=5:=by omega
 rcases hc with rfl|rfl|rfl|rfl|rfl|rfl
 ·go_enter Tryz.func44,Tryz.ntmps44
  go_wp2_with (go_at_call 172;refine R.mono ?_;clear R;rintro e w' ⟨rfl,hw⟩)
  go_ret
  exact ⟨rfl,hw⟩
 ·go_enter Tryz.func44,Tryz.ntmps44
  go_wp2_with (first|(go_at_call 172;refine R.mono ?_;clear R;rintro e w' ⟨rfl,hw⟩)|(go_at_call 85;refine (S _).mono ?_;rintro e w1 ⟨rfl,h1⟩;replace h1:=h1.symm;subst h1))
  go_ret
  exact ⟨rfl,hw⟩
 ·go_enter Tryz.func44,Tryz.ntmps44
  go_wp2_with (first|(go_at_call 172;refine R.mono ?_;clear R;rintro e w' ⟨rfl,hw⟩)|(go_at_call 86;refine (E _).mono ?_;rintro e w1 ⟨rfl,h1⟩;replace h1:=h1.symm;subst h1))
  go_ret
  exact ⟨rfl,hw⟩
 ·show Calls _ _ _ _ fun e w'=>e=.returned (.bool ((kd==16) || (kd==17)))∧_
  by_cases h6:kd=16
  ·subst h6
   go_enter Tryz.func44,Tryz.ntmps44
   go_wp2_with (go_at_call 172;refine R.mono ?_;clear R;rintro e w' ⟨rfl,hw⟩)
   go_ret
   exact ⟨rfl,hw⟩
  ·have e6:(kd==16)=false:=by simp;exact h6
   go_enter Tryz.func44,Tryz.ntmps44
   go_wp2_with (go_at_call 172;refine R.mono ?_;clear R;rintro e w' ⟨rfl,hw⟩)
   go_ret
   exact ⟨ret_bool (by rw [e6];simp),hw⟩
 ·go_enter Tryz.func44,Tryz.ntmps44
  go_wp2_with (go_at_call 172;refine R.mono ?_;clear R;rintro e w' ⟨rfl,hw⟩)
  go_ret
  exact ⟨rfl,hw⟩
 ·go_enter Tryz.func44,Tryz.ntmps44
  go_wp2_with (go_at_call 172;refine R.mono ?_;clear R;rintro e w' ⟨rfl,hw⟩)
  go_ret
  exact ⟨rfl,hw⟩
end vt
end Go.Proofs.YtkmiagkehcflnaaGreatDoor
