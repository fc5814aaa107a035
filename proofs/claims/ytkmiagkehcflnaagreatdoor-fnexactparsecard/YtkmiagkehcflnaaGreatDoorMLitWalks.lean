import Derived.Laws.RangeString
import Derived.WalkSpells
import Derived.Deep.AppendLies
import Derived.Scope
import Derived.ScopeJumps
import Derived.WalkMore
import Derived.Test.YtkmiagkehcflnaaGreatDoorMIpTab
import Derived.Test.YtkmiagkehcflnaaGreatDoorMScanMore
import Derived.Test.YtkmiagkehcflnaaGreatDoorMPsLists
set_option maxRecDepth 100000
set_option maxHeartbeats 8000000
namespace Go.Proofs.YtkmiagkehcflnaaGreatDoor
namespace lit
open Go.RowKit bts scn
def esc (e:Int):Int×Int:=if e=110 then (10,2) else if e=116 then (9,2) else if e=92∨e=34∨e=39 then (e,2) else (0,0)
theorem next_at (w:World) (pos:Nat) (ty:TypeId) (v:Int) (h:pos<5) (hv:v=[110,116,92,34,39].getD pos 0) :
  (Instr.next (.pointer (some ⟨w.heap.size,0,none⟩)) true ty).run Tryz.prog (w.iter {data:=#[110,116,92,34,39]} pos)=.ok (.tuple #[.bool true,.int .i64 pos,.int .i32 v]) (w.iter {data:=#[110,116,92,34,39]} (pos+1)):=by
 match pos,h with
 |0,_=>subst hv;exact run_next_ascii w _ 0 ty (by decide) (by decide)
 |1,_=>subst hv;exact run_next_ascii w _ 1 ty (by decide) (by decide)
 |2,_=>subst hv;exact run_next_ascii w _ 2 ty (by decide) (by decide)
 |3,_=>subst hv;exact run_next_ascii w _ 3 ty (by decide) (by decide)
 |4,_=>subst hv;exact run_next_ascii w _ 4 ty (by decide) (by decide)
theorem next_out (w:World) (ty:TypeId):(Instr.next (.pointer (some ⟨w.heap.size,0,none⟩)) true ty).run Tryz.prog (w.iter {data:=#[110,116,92,34,39]} 5)=.ok (.tuple #[.bool false]) (w.iter {data:=#[110,116,92,34,39]} 5) :=
 run_next_end w _ 5 ty (by decide)
theorem esc_any (e:Int) (h0:0≤e) (h1:e≤255) (w:World) :
  Calls Tryz.prog 115 #[.int .u8 e] w fun x w'=>x=.returned (.tuple #[.int .u8 (esc e).1,.int .i64 (esc e).2])∧∃o,w'=w.alloc o:=by
 have n0:=fun ty=>next_at w 0 ty 110 (by omega) rfl
 have n1:=fun ty=>next_at w 1 ty 116 (by omega) rfl
 have n2:=fun ty=>next_at w 2 ty 92 (by omega) rfl
 have n3:=fun ty=>next_at w 3 ty 34 (by omega) rfl
 have n4:=fun ty=>next_at w 4 ty 39 (by omega) rfl
 have n5:=next_out w
 by_cases a0:e=110
 ·subst a0
  go_enter Tryz.func115,Tryz.ntmps115
  go_wp2
  refine wp_loop_rounds 6 ?_
  rw [rounds_succ]
  go_wp2
  go_ret2
  exact ⟨rfl,_,rfl⟩
 by_cases a1:e=116
 ·subst a1
  go_enter Tryz.func115,Tryz.ntmps115
  go_wp2
  refine wp_loop_rounds 6 ?_
  rw [rounds_succ]
  go_wp2
  rw [rounds_succ]
  go_wp2
  go_ret2
  exact ⟨rfl,_,rfl⟩
 by_cases a2:e=92
 ·subst a2
  go_enter Tryz.func115,Tryz.ntmps115
  go_wp2
  refine wp_loop_rounds 6 ?_
  rw [rounds_succ]
  go_wp2
  rw [rounds_succ]
  go_wp2
  rw [rounds_succ]
  go_wp2
  go_ret2
  exact ⟨rfl,_,rfl⟩
 by_cases a3:e=34
 ·subst a3
  go_enter Tryz.func115,Tryz.ntmps115
  go_wp2
  refine wp_loop_rounds 6 ?_
  rw [rounds_succ]
  go_wp2
  rw [rounds_succ]
  go_wp2
  rw [rounds_succ]
  go_wp2
  rw [rounds_succ]
  go_wp2
  go_ret2
  exact ⟨rfl,_,rfl⟩
 by_cases a4:e=39
 ·subst a4
  go_enter Tryz.func115,Tryz.ntmps115
  go_wp2
  refine wp_loop_rounds 6 ?_
  rw [rounds_succ]
  go_wp2
  rw [rounds_succ]
  go_wp2
  rw [rounds_succ]
  go_wp2
  rw [rounds_succ]
  go_wp2
  rw [rounds_succ]
  go_wp2
  go_ret2
  exact ⟨rfl,_,rfl⟩
 have hE:esc e=(0,0):=by unfold esc;rw [if_neg a0,if_neg a1,if_neg (by omega)]
 rw [hE]
 have e0:((110:Int)==e)=false:=by simp;omega
 have e1:((116:Int)==e)=false:=by simp;omega
 have e2:((92:Int)==e)=false:=by simp;omega
 have e3:((34:Int)==e)=false:=by simp;omega
 have e4:((39:Int)==e)=false:=by simp;omega
 clear hE
 go_enter Tryz.func115,Tryz.ntmps115
 go_wp2
 refine wp_loop_rounds 6 ?_
 rw [rounds_succ]
 go_wp2
 rw [rounds_succ]
 go_wp2
 rw [rounds_succ]
 go_wp2
 rw [rounds_succ]
 go_wp2
 rw [rounds_succ]
 go_wp2
 rw [rounds_succ]
 go_wp2
 go_ret2
 exact ⟨rfl,_,rfl⟩
def rcI (zs:List Int) (i:Nat):Int×Int:=match rc zs i with|none=>(0,0)|some (c,s)=>(c,(s:Int))
theorem hexByte_short (ao:Option Addr) (n cap:Nat) (w:World) (h:n<4) :
  Calls Tryz.prog 114 #[.slice ao n cap] w fun x w'=>x=.returned (.tuple #[.int .u8 0,.int .i64 0])∧w'=w:=by
 go_enter Tryz.func114,Tryz.ntmps114
 go_wp2
 go_ret2
 exact ⟨rfl,rfl⟩
theorem shl_or (a b:Int) (h0:0≤a) (h1:a≤15) (h2:0≤b) (h3:b≤15):bits .or .i64 (a*16) b=a*16+b:=by
 obtain ⟨m,rfl⟩:=Int.eq_ofNat_of_zero_le h0
 obtain ⟨n,rfl⟩:=Int.eq_ofNat_of_zero_le h2
 have hm:m≤15:=by omega
 have hn:n≤15:=by omega
 have:∀m:Fin 16,∀n:Fin 16,bits .or .i64 (((m.val:Nat):Int)*16) ((n.val:Nat):Int)=((m.val:Nat):Int)*16+((n.val:Nat):Int):=by decide
 exact this ⟨m,by omega⟩ ⟨n,by omega⟩
def hb2 (a c:Int):Int×Int:=if hexv a<0∨hexv c<0 then (0,0) else (hexv a*16+hexv c,4)
theorem fin_hb {p:Int×Int} {a b:Int} (h:p=(a,b)):Ending.returned (.tuple #[.int .u8 a,.int .i64 b])=.returned (.tuple #[.int .u8 p.1,.int .i64 p.2]):=by rw [h]
theorem hexByte_any (b off n cap:Nat) (a c:Int) (w:World) (h:4≤n) (hn:n≤140737488355328) (ha0:0≤a) (ha1:a≤255) (hc0:0≤c) (hc1:c≤255)
  (hca:w.cell? ⟨b,off+2,none⟩=some (.int .u8 a)) (hcc:w.cell? ⟨b,off+3,none⟩=some (.int .u8 c)) :
  Calls Tryz.prog 114 #[.slice (some ⟨b,off,none⟩) n cap] w fun x w'=>x=.returned (.tuple #[.int .u8 (hb2 a c).1,.int .i64 (hb2 a c).2])∧Same w w':=by
 have i2:(2:Int)<(n:Int):=by omega
 have i3:(3:Int)<(n:Int):=by omega
 have d1:=digv_bd a
 have d2:=digv_bd c
 by_cases xa:hexv a<0
 ·have g1:digv a=16:=by unfold digv;rw [if_pos xa]
  have g2:(digv a==16)=true:=by simp [g1]
  have HG:Hid (hexv a<0∨hexv c<0):=.inl xa
  clear g1 xa
  go_enter Tryz.func114,Tryz.ntmps114
  go_wp2
  go_quiet ((go_at_call 101;exact Calls.quiet_of_same (digit_any _ (by assumption) (by assumption) _)))
  go_wp2
  go_ret2
  exact ⟨fin_hb (by unfold hb2;rw [if_pos HG.out]),same_drewN _ _⟩
 ·have f1:digv a=hexv a:=by unfold digv;rw [if_neg xa]
  have f2:=hexv_bd a
  by_cases xc:hexv c<0
  ·have g1:digv c=16:=by unfold digv;rw [if_pos xc]
   have g2:(digv c==16)=true:=by simp [g1]
   have g3:(digv a==16)=false:=by simp;omega
   have HG:Hid (hexv a<0∨hexv c<0):=.inr xc
   clear g1 xc xa f1 f2
   go_enter Tryz.func114,Tryz.ntmps114
   go_wp2
   go_quiet ((go_at_call 101;exact Calls.quiet_of_same (digit_any _ (by assumption) (by assumption) _)))
   go_wp2
   go_ret2
   exact ⟨fin_hb (by unfold hb2;rw [if_pos HG.out]),same_drewN _ _⟩
  ·have f3:digv c=hexv c:=by unfold digv;rw [if_neg xc]
   have f4:=hexv_bd c
   have g2:(digv c==16)=false:=by simp;omega
   have g3:(digv a==16)=false:=by simp;omega
   have l1:digv a≤15:=by omega
   have l2:digv c≤15:=by omega
   have hor:=shl_or (digv a) (digv c) d1.1 l1 d2.1 l2
   have HG:Hid (¬(hexv a<0∨hexv c<0)):=by show ¬_;omega
   have H1:Hid (digv a=hexv a):=f1
   have H2:Hid (digv c=hexv c):=f3
   clear f1 f3 xa xc f2 f4
   go_enter Tryz.func114,Tryz.ntmps114
   go_wp2
   go_quiet ((go_at_call 101;exact Calls.quiet_of_same (digit_any _ (by assumption) (by assumption) _)))
   go_wp2
   go_ret2
   exact ⟨fin_hb (by unfold hb2;rw [if_neg (by have:=HG.out;omega),← H1.out,← H2.out]),same_drewN _ _⟩
theorem rcI_none {zs:List Int} {i:Nat} (h:rc zs i=none):rcI zs i=(0,0):=by unfold rcI;rw [h]
theorem rcI_some {zs:List Int} {i s:Nat} {c:Int} (h:rc zs i=some (c,s)):rcI zs i=(c,(s:Int)):=by unfold rcI;rw [h]
theorem getD_drop (zs:List Int) (i j:Nat):(zs.drop i).getD j 0=zs.getD (i+j) 0:=by simp [List.getD_eq_getElem?_getD,List.getElem?_drop]
theorem rc_drop (zs:List Int) (i:Nat) (h:i<zs.length):rc (zs.drop i) 0=rc zs i:=by
 unfold rc
 simp only [getD_drop,List.length_drop,Nat.add_zero,Nat.zero_add]
 have e1:(zs.length-i≤1)=(zs.length≤i+1):=by rw [eq_iff_iff];omega
 have e3:(zs.length-i≤3)=(zs.length≤i+3):=by rw [eq_iff_iff];omega
 simp only [e1,e3]
theorem readChar_any (b off n cap:Nat) (ds:List Int) (w:World) (hl:ds.length=n) (h1:1≤n) (hn:n≤140737488355328) (hb:Bts ds)
  (hcell:∀i,i<n→w.cell? ⟨b,off+i,none⟩=some (.int .u8 (ds.getD i 0))) :
  Calls Tryz.prog 99 #[.slice (some ⟨b,off,none⟩) n cap] w fun x w'=>x=.returned (.tuple #[.int .u8 (rcI ds 0).1,.int .i64 (rcI ds 0).2])∧Below w.heap.size w w':=by
 have hc0:=hcell 0 (by omega)
 rw [Nat.add_zero] at hc0
 obtain ⟨z,hz⟩:∃z,z=ds.getD 0 0:=⟨_,rfl⟩
 have bz:=hb 0
 rw [← hz] at hc0 bz
 have H0:Hid (ds.getD 0 0=z):=hz.symm
 have HL:Hid (ds.length=n):=hl
 have HB:Hid (Bts ds):=hb
 have HC:Hid (∀i,i<n→w.cell? ⟨b,off+i,none⟩=some (.int .u8 (ds.getD i 0))):=hcell
 clear hz hl hb hcell
 by_cases a1:z=10
 ·subst a1
  have hr:=rcI_none (rc_lf H0.out)
  rw [hr]
  clear hr
  go_enter Tryz.func99,Tryz.ntmps99
  go_wp2
  go_ret2
  exact ⟨rfl,Below.refl _ _⟩
 by_cases a2:z=92
 ·subst a2
  by_cases a3:n<2
  ·have hr:=rcI_none (rc_short H0.out (by rw [HL.out];omega))
   rw [hr]
   clear hr
   go_enter Tryz.func99,Tryz.ntmps99
   go_wp2
   go_ret2
   exact ⟨rfl,Below.refl _ _⟩
  have hc1:=HC.out 1 (by omega)
  obtain ⟨e,he⟩:∃e,e=ds.getD 1 0:=⟨_,rfl⟩
  have be:=HB.out 1
  rw [← he] at hc1 be
  obtain ⟨be0,be1⟩:=be
  have H1:Hid (ds.getD (0+1) 0=e):=he.symm
  clear he
  by_cases a4:e=120
  ·subst a4
   by_cases a5:n<4
   ·have hr:=rcI_none (rc_hshort H0.out (by rw [HL.out];omega) H1.out (by rw [HL.out];omega))
    rw [hr]
    clear hr
    go_enter Tryz.func99,Tryz.ntmps99
    go_wp2_with (go_at_call 114;refine (hexByte_short _ _ _ _ a5).mono ?_;rintro x w' ⟨rfl,rfl⟩)
    go_ret2
    exact ⟨rfl,Below.refl _ _⟩
   ·have hc2:=HC.out 2 (by omega)
    have hc3:=HC.out 3 (by omega)
    have b2:=HB.out 2
    have b3:=HB.out 3
    have hR:rcI ds 0=hb2 (ds.getD 2 0) (ds.getD 3 0):=by
     unfold hb2
     by_cases x:hexv (ds.getD 2 0)<0∨hexv (ds.getD 3 0)<0
     ·rw [if_pos x,rcI_none (rc_hbad H0.out (by rw [HL.out];omega) H1.out (by rw [HL.out];omega) x)]
     ·rw [if_neg x,rcI_some (rc_hex (a:=ds.getD 2 0) (b:=ds.getD 3 0) H0.out (by rw [HL.out];omega) H1.out (by rw [HL.out];omega) rfl rfl (by omega) (by omega))];rfl
    have C:=hexByte_any b off n cap (ds.getD 2 0) (ds.getD 3 0) w (by omega) hn b2.1 b2.2 b3.1 b3.2 hc2 hc3
    rw [← hR] at C
    clear hR hc2 hc3 b2 b3
    go_enter Tryz.func99,Tryz.ntmps99
    go_wp2_with (go_at_call 114;refine C.mono ?_;rintro x w' ⟨rfl,hs⟩)
    go_ret2
    exact ⟨rfl,hs.2 _⟩
  ·have e120:(e==120)=false:=by simp;omega
   have hR:rcI ds 0=esc e:=by
    unfold esc
    by_cases x1:e=110
    ·rw [if_pos x1,rcI_some (rc_n H0.out (by rw [HL.out];omega) (by rw [H1.out];exact x1))];rfl
    by_cases x2:e=116
    ·rw [if_neg x1,if_pos x2,rcI_some (rc_t H0.out (by rw [HL.out];omega) (by rw [H1.out];exact x2))];rfl
    by_cases x3:e=92∨e=34∨e=39
    ·rw [if_neg x1,if_neg x2,if_pos x3,rcI_some (rc_esc H0.out (by rw [HL.out];omega) H1.out x3)];rfl
    ·rw [if_neg x1,if_neg x2,if_neg x3,rcI_none (rc_none H0.out (by rw [HL.out];omega) H1.out a4 x1 x2 (by omega) (by omega) (by omega))]
   have C:=esc_any e be0 be1 w
   rw [← hR] at C
   clear hR a4
   go_enter Tryz.func99,Tryz.ntmps99
   go_wp2_with (go_at_call 115;refine C.mono ?_;rintro x w' ⟨rfl,o,rfl⟩)
   go_ret2
   exact ⟨rfl,(Below.refl _ _).alloc (Nat.le_refl _) _⟩
 ·have hr:=rcI_some (rc_self H0.out a1 a2)
  rw [hr]
  have e10:(z==10)=false:=by simp;omega
  have e92:(z==92)=false:=by simp;omega
  clear hr a1 a2
  go_enter Tryz.func99,Tryz.ntmps99
  go_wp2
  go_ret2
  exact ⟨rfl,Below.refl _ _⟩
def OwnT (w:World) (B:Nat) (ao:Option Addr) (cap:Nat) (t:List Int):Prop:=w.ownsRow B 5 1 (.slice ao t.length cap) t.length (bcells t)
theorem own_push {w:World} {B g cap m:Nat} {out:List Int} {c:Int} (_hm:out.length=m) (h:w.ownsRow B 5 1 (.slice (some ⟨g,0,none⟩) (m+1) cap) (m+1) (bcells out++[.int .u8 c])) :
  w.ownsRow B 5 1 (.slice (some ⟨g,0,none⟩) (m+1) cap) (m+1) (bcells (out++[c])):=by
 have e:bcells (out++[c])=bcells out++[.int .u8 c]:=by simp [bcells]
 rw [e];exact h
theorem readLit_any (b off cap:Nat) (zs:List Int) (w:World) (hb:Bts zs) (hcell:∀i,i<zs.length→w.cell? ⟨b,off+i,none⟩=some (.int .u8 (zs.getD i 0))) (hbw:b<w.heap.size) (hcap:zs.length≤cap) (_hm:cap≤9223372036854775807)
  (h0:0<zs.length) (hq:zs.getD 0 0=34∨zs.getD 0 0=39) (hnb:zs.length≤1073741824:=by omega) :
  Calls Tryz.prog 76 #[.slice (some ⟨b,off,none⟩) zs.length cap] w fun x w'=>Below w.heap.size w w' ∧
   ((litAt zs 0=none∧x=.returned (.tuple #[.slice none 0 0,.int .i64 0])) ∨
   ∃t e ao c,litAt zs 0=some (t,e)∧x=.returned (.tuple #[.slice ao t.length c,.int .i64 (e:Int)])∧OwnT w' w.heap.size ao c t):=by
 obtain ⟨i0,hi,hz0,hz1,hz2⟩:=info_parts info_u8
 have hA:litAt zs 0=rl (zs.getD 0 0) zs 1 []:=by unfold litAt;rw [if_pos ⟨h0,hq⟩]
 have hc0:=hcell 0 h0
 rw [Nat.add_zero] at hc0
 obtain ⟨q,hqq⟩:∃q,q=zs.getD 0 0:=⟨_,rfl⟩
 rw [← hqq] at hA hc0 hq
 obtain ⟨n,hnn⟩:∃n,n=zs.length:=⟨_,rfl⟩
 have HL:Hid (zs.length=n):=hnn.symm
 have HB:Hid (Bts zs):=hb
 have HC:Hid (∀i,i<zs.length→w.cell? ⟨b,off+i,none⟩=some (.int .u8 (zs.getD i 0))):=hcell
 have HA:Hid (litAt zs 0=rl q zs 1 []):=hA
 rw [← hnn] at hcap h0 hnb ⊢
 clear hqq hnn hA hb hcell
 have hne:((n:Int)==0)=false:=by simp;omega
 rcases hq with rfl|rfl
 ·skip
  go_enter Tryz.func76,Tryz.ntmps76
  go_wp2
  go_loopw [4,5] (fun v a wr=>∃(i m c:Nat) (ao:Option Addr) (out:List Int),i≤n∧1≤i∧m<i∧a=.int .i64 i∧v=.slice ao m c∧Hid (out.length=m)∧wr.ownsRow w.heap.size 5 1 (.slice ao m c) m (bcells out)∧Hid (litAt zs 0=rl 34 zs i out)∧Below w.heap.size w wr) (fun _ a _=>n-(intOf a).toNat)
  case atStart=>exact ⟨1,0,0,none,[],by omega,by omega,by omega,rfl,rfl,rfl,World.ownsRow_nil _ _ _ _,HA,Below.refl _ _⟩
  case round =>
   obtain ⟨i,m,c,ao,out,hi0,hi1,hmi,rfl,rfl,HO,hown,HR,hbel⟩:=hrel
   by_cases hlt:i<n
   ·have hci:wr.cell? ⟨b,off+i,none⟩=some (.int .u8 (zs.getD i 0)):=(hbel.cell (p:=⟨b,off+i,none⟩) hbw).trans (HC.out i (by rw [HL.out];exact hlt))
    have hcq:wr.cell? ⟨b,off,none⟩=some (.int .u8 34):=(hbel.cell (p:=⟨b,off,none⟩) hbw).trans hc0
    obtain ⟨z,hz⟩:∃z,z=zs.getD i 0:=⟨_,rfl⟩
    have bz:=HB.out i
    rw [← hz] at hci bz
    have HZ:Hid (zs.getD i 0=z):=hz.symm
    have HI:Hid (i<zs.length):=by show _<_;rw [HL.out];exact hlt
    have i1:(i:Int)<(n:Int):=by omega
    have i2:(0:Int)<(n:Int):=by omega
    clear hz
    by_cases hzq:z=34
    ·subst hzq
     have HE:Hid (litAt zs 0=some (out,i+1)):=by show _=_;rw [HR.out,rl_close HI.out HZ.out]
     go_wp2
     go_quiet (fail)
     go_wp2
     go_ret2
     refine ⟨below_drewN hbel _,.inr ⟨out,i+1,ao,c,HE.out,by rw [HO.out];simp,?_⟩⟩
     unfold OwnT
     rw [HO.out]
     exact own_heap hown (same_drewN _ _)
    ·have hzf:(z==34)=false:=by simpa using hzq
     have HQ:Hid (¬zs.getD i 0=34):=by show ¬_;rw [HZ.out];exact hzq
     have hcd:∀w':World,(∀a:Addr,a.block<w.heap.size→w'.cell? a=wr.cell? a)→∀j,j<n-i→w'.cell? ⟨b,off+i+j,none⟩=some (.int .u8 ((zs.drop i).getD j 0)):=by
      intro w' hw' j hj
      rw [hw' ⟨b,off+i+j,none⟩ hbw,getD_drop,Nat.add_assoc]
      exact (hbel.cell (p:=⟨b,off+(i+j),none⟩) hbw).trans (HC.out (i+j) (by rw [HL.out];omega))
     have C:=fun nq=>readChar_any b (off+i) (n-i) (cap-i) (zs.drop i) (wr.drewN nq) (by rw [List.length_drop,HL.out]) (by omega) (by omega) (HB.out.drop i) (hcd _ fun _ _=>rfl)
     have hRR:rcI (zs.drop i) 0=rcI zs i:=by unfold rcI;rw [rc_drop zs i HI.out]
     simp only [hRR] at C
     clear hcd hRR hzq
     cases hrc:rc zs i with
     |none =>
      simp only [rcI_none hrc] at C
      have HE:Hid (litAt zs 0=none):=by show _=_;rw [HR.out,rl_bad HI.out HQ.out hrc]
      clear hrc
      go_wp2
      go_quiet (fail)
      go_wp2_with (go_at_call 99;refine (C _).mono ?_;rintro x w' ⟨rfl,hb'⟩)
      go_ret2
      exact ⟨hbel.trans ((below_drewN (Below.refl _ _) _).trans (hb'.mono hbel.size)),.inl ⟨HE.out,rfl⟩⟩
     |some p =>
      obtain ⟨d,s⟩:=p
      simp only [rcI_some hrc] at C
      have hf:=rc_fits HB.out HI.out hrc
      have HE:Hid (litAt zs 0=rl 34 zs (i+s) (out++[d])):=by show _=_;rw [HR.out,rl_step HI.out HQ.out hrc (by omega)]
      have hs1:1≤s:=by omega
      have hs2:i+s≤n:=by rw [HL.out] at hf;omega
      have hsz:((s:Int)==0)=false:=by simp;omega
      have HD:Hid (0≤d∧d≤255):=⟨hf.1,hf.2.1⟩
      have hBs:=hbel.size
      clear hrc hf
      go_wp2
      go_quiet (fail)
      go_wp2_with fail
      refine (C _).mono ?_
      rintro x w' ⟨rfl,hb'⟩
      have hb2:Below wr.heap.size wr w':=(below_drewN (Below.refl _ _) _).trans hb'
      have hs2':=hb2.size
      have hown2:w'.ownsRow w.heap.size 5 1 (.slice ao m c) m (bcells out):=by
       rcases ao with _|⟨g,o,sp⟩
       ·rcases hown.2 with ⟨e,e2⟩|⟨g',c',cur,e,_⟩
        ·exact ⟨hown.1,.inl ⟨e,e2⟩⟩
        ·simp at e
       ·rcases hown.2 with ⟨e,e2⟩|⟨g',c',cur,e,_⟩
        ·simp at e
        ·simp only [Value.slice.injEq,Option.some.injEq,Addr.mk.injEq,true_and] at e
         obtain ⟨⟨rfl,rfl,rfl⟩,rfl⟩:=e
         exact own_below hown hb2 (hown.lt g rfl).2
      have hgB:∀k,(Value.slice ao m c).ownBlock=some k→w.heap.size≤k:=fun k hk=>(hown.lt k hk).1
      have HBel:Hid (Below w.heap.size w w'):=hbel.trans (hb2.mono hbel.size)
      clear C hb' hown hci hcq
      go_wp2_with (at_builtin;refine wpList_append_lies _ rfl _ _ _ rfl w.heap.size 5 i0 (.int .u8 0) 1 1 Tryz.underlying22 hi hz0 hz1 hz2 rfl (by omega) _ m (bcells out) rfl (hown2.alloc _) ⟨w'.heap.size,0,none⟩ 1 1 [.int .u8 d] rfl rfl (World.news_of_block (cs:=#[.int .u8 d]) (t:=5) (fr:=(0,0)) (heap_alloc_new w' _)) (by simp [Value.oneCell']) (by omega) (by unfold maxLen;omega) (by omega) (by simp;omega) (w'.heap.size+1) (by simp) ?_;intro g' cap' w1 hown1 hgrow hat hlt2)
      go_roundw
      case rel=>exact ⟨i+s,m+1,cap',some ⟨g',0,none⟩,out++[d],by omega,by omega,by omega,by go_num,rfl,by show _=_;rw [List.length_append,HO.out];rfl,own_push HO.out hown1,HE,(HBel.out.alloc (by omega) _).grown hgrow (by simp;omega) hgB⟩
      case measure=>simp [intOf];omega
   ·have HE:Hid (litAt zs 0=none):=by show _=_;rw [HR.out,rl_end (by rw [HL.out];exact hlt)]
    go_wp2
    go_ret2
    exact ⟨hbel,.inl ⟨HE.out,rfl⟩⟩
 ·skip
  go_enter Tryz.func76,Tryz.ntmps76
  go_wp2
  go_loopw [4,5] (fun v a wr=>∃(i m c:Nat) (ao:Option Addr) (out:List Int),i≤n∧1≤i∧m<i∧a=.int .i64 i∧v=.slice ao m c∧Hid (out.length=m)∧wr.ownsRow w.heap.size 5 1 (.slice ao m c) m (bcells out)∧Hid (litAt zs 0=rl 39 zs i out)∧Below w.heap.size w wr) (fun _ a _=>n-(intOf a).toNat)
  case atStart=>exact ⟨1,0,0,none,[],by omega,by omega,by omega,rfl,rfl,rfl,World.ownsRow_nil _ _ _ _,HA,Below.refl _ _⟩
  case round =>
   obtain ⟨i,m,c,ao,out,hi0,hi1,hmi,rfl,rfl,HO,hown,HR,hbel⟩:=hrel
   by_cases hlt:i<n
   ·have hci:wr.cell? ⟨b,off+i,none⟩=some (.int .u8 (zs.getD i 0)):=(hbel.cell (p:=⟨b,off+i,none⟩) hbw).trans (HC.out i (by rw [HL.out];exact hlt))
    have hcq:wr.cell? ⟨b,off,none⟩=some (.int .u8 39):=(hbel.cell (p:=⟨b,off,none⟩) hbw).trans hc0
    obtain ⟨z,hz⟩:∃z,z=zs.getD i 0:=⟨_,rfl⟩
    have bz:=HB.out i
    rw [← hz] at hci bz
    have HZ:Hid (zs.getD i 0=z):=hz.symm
    have HI:Hid (i<zs.length):=by show _<_;rw [HL.out];exact hlt
    have i1:(i:Int)<(n:Int):=by omega
    have i2:(0:Int)<(n:Int):=by omega
    clear hz
    by_cases hzq:z=39
    ·subst hzq
     have HE:Hid (litAt zs 0=some (out,i+1)):=by show _=_;rw [HR.out,rl_close HI.out HZ.out]
     go_wp2
     go_quiet (fail)
     go_wp2
     go_ret2
     refine ⟨below_drewN hbel _,.inr ⟨out,i+1,ao,c,HE.out,by rw [HO.out];simp,?_⟩⟩
     unfold OwnT
     rw [HO.out]
     exact own_heap hown (same_drewN _ _)
    ·have hzf:(z==39)=false:=by simpa using hzq
     have HQ:Hid (¬zs.getD i 0=39):=by show ¬_;rw [HZ.out];exact hzq
     have hcd:∀w':World,(∀a:Addr,a.block<w.heap.size→w'.cell? a=wr.cell? a)→∀j,j<n-i→w'.cell? ⟨b,off+i+j,none⟩=some (.int .u8 ((zs.drop i).getD j 0)):=by
      intro w' hw' j hj
      rw [hw' ⟨b,off+i+j,none⟩ hbw,getD_drop,Nat.add_assoc]
      exact (hbel.cell (p:=⟨b,off+(i+j),none⟩) hbw).trans (HC.out (i+j) (by rw [HL.out];omega))
     have C:=fun nq=>readChar_any b (off+i) (n-i) (cap-i) (zs.drop i) (wr.drewN nq) (by rw [List.length_drop,HL.out]) (by omega) (by omega) (HB.out.drop i) (hcd _ fun _ _=>rfl)
     have hRR:rcI (zs.drop i) 0=rcI zs i:=by unfold rcI;rw [rc_drop zs i HI.out]
     simp only [hRR] at C
     clear hcd hRR hzq
     cases hrc:rc zs i with
     |none =>
      simp only [rcI_none hrc] at C
      have HE:Hid (litAt zs 0=none):=by show _=_;rw [HR.out,rl_bad HI.out HQ.out hrc]
      clear hrc
      go_wp2
      go_quiet (fail)
      go_wp2_with (go_at_call 99;refine (C _).mono ?_;rintro x w' ⟨rfl,hb'⟩)
      go_ret2
      exact ⟨hbel.trans ((below_drewN (Below.refl _ _) _).trans (hb'.mono hbel.size)),.inl ⟨HE.out,rfl⟩⟩
     |some p =>
      obtain ⟨d,s⟩:=p
      simp only [rcI_some hrc] at C
      have hf:=rc_fits HB.out HI.out hrc
      have HE:Hid (litAt zs 0=rl 39 zs (i+s) (out++[d])):=by show _=_;rw [HR.out,rl_step HI.out HQ.out hrc (by omega)]
      have hs1:1≤s:=by omega
      have hs2:i+s≤n:=by rw [HL.out] at hf;omega
      have hsz:((s:Int)==0)=false:=by simp;omega
      have HD:Hid (0≤d∧d≤255):=⟨hf.1,hf.2.1⟩
      have hBs:=hbel.size
      clear hrc hf
      go_wp2
      go_quiet (fail)
      go_wp2_with fail
      refine (C _).mono ?_
      rintro x w' ⟨rfl,hb'⟩
      have hb2:Below wr.heap.size wr w':=(below_drewN (Below.refl _ _) _).trans hb'
      have hs2':=hb2.size
      have hown2:w'.ownsRow w.heap.size 5 1 (.slice ao m c) m (bcells out):=by
       rcases ao with _|⟨g,o,sp⟩
       ·rcases hown.2 with ⟨e,e2⟩|⟨g',c',cur,e,_⟩
        ·exact ⟨hown.1,.inl ⟨e,e2⟩⟩
        ·simp at e
       ·rcases hown.2 with ⟨e,e2⟩|⟨g',c',cur,e,_⟩
        ·simp at e
        ·simp only [Value.slice.injEq,Option.some.injEq,Addr.mk.injEq,true_and] at e
         obtain ⟨⟨rfl,rfl,rfl⟩,rfl⟩:=e
         exact own_below hown hb2 (hown.lt g rfl).2
      have hgB:∀k,(Value.slice ao m c).ownBlock=some k→w.heap.size≤k:=fun k hk=>(hown.lt k hk).1
      have HBel:Hid (Below w.heap.size w w'):=hbel.trans (hb2.mono hbel.size)
      clear C hb' hown hci hcq
      go_wp2_with (at_builtin;refine wpList_append_lies _ rfl _ _ _ rfl w.heap.size 5 i0 (.int .u8 0) 1 1 Tryz.underlying22 hi hz0 hz1 hz2 rfl (by omega) _ m (bcells out) rfl (hown2.alloc _) ⟨w'.heap.size,0,none⟩ 1 1 [.int .u8 d] rfl rfl (World.news_of_block (cs:=#[.int .u8 d]) (t:=5) (fr:=(0,0)) (heap_alloc_new w' _)) (by simp [Value.oneCell']) (by omega) (by unfold maxLen;omega) (by omega) (by simp;omega) (w'.heap.size+1) (by simp) ?_;intro g' cap' w1 hown1 hgrow hat hlt2)
      go_roundw
      case rel=>exact ⟨i+s,m+1,cap',some ⟨g',0,none⟩,out++[d],by omega,by omega,by omega,by go_num,rfl,by show _=_;rw [List.length_append,HO.out];rfl,own_push HO.out hown1,HE,(HBel.out.alloc (by omega) _).grown hgrow (by simp;omega) hgB⟩
      case measure=>simp [intOf];omega
   ·have HE:Hid (litAt zs 0=none):=by show _=_;rw [HR.out,rl_end (by rw [HL.out];exact hlt)]
    go_wp2
    go_ret2
    exact ⟨hbel,.inl ⟨HE.out,rfl⟩⟩
end lit
namespace lex
open Go.RowKit bts scn lit
theorem ofNat_eq {c:Int} {b:Nat} (h0:0≤c) (h1:c≤255) (hb:b<256):(UInt8.ofNat c.toNat==UInt8.ofNat b)=(c==(b:Int)):=by
 rw [Bool.eq_iff_iff]
 simp only [beq_iff_eq]
 constructor
 ·intro h
  have:=congrArg UInt8.toNat h
  simp only [UInt8.toNat_ofNat'] at this
  omega
 ·rintro rfl;simp
theorem part_one {zs:List Int} {k:Nat} (h:k<zs.length):part zs k 1=[zs.getD k 0]:=by
 unfold part
 rw [List.drop_eq_getElem_cons h]
 simp only [List.take_succ_cons,List.take_zero,List.getD_eq_getElem?_getD,List.getElem?_eq_getElem h,Option.getD_some]
theorem part_two {zs:List Int} {k:Nat} (h:k+1<zs.length):part zs k 2=[zs.getD k 0,zs.getD (k+1) 0]:=by
 unfold part
 rw [List.drop_eq_getElem_cons (by omega),List.drop_eq_getElem_cons h]
 simp only [List.take_succ_cons,List.take_zero,List.getD_eq_getElem?_getD,List.getElem?_eq_getElem h,List.getElem?_eq_getElem (show k<zs.length by omega),Option.getD_some]
theorem toList1 (a:UInt8):(ByteArray.mk #[a]).toList=[a]:=by
 unfold ByteArray.toList
 rw [ByteArray.toList.loop,ByteArray.toList.loop]
 rfl
theorem toList2 (a b:UInt8):(ByteArray.mk #[a,b]).toList=[a,b]:=by
 unfold ByteArray.toList
 rw [ByteArray.toList.loop,ByteArray.toList.loop,ByteArray.toList.loop]
 rfl
theorem stands1 {zs:List Int} (hb:Bts zs) {k:Nat} (h:k<zs.length) (b:Nat) (h256:b<256):stands zs k {data:=#[UInt8.ofNat b]}=(zs.getD k 0==(b:Int)):=by
 have hz:=hb k
 rw [← ofNat_eq hz.1 hz.2 h256]
 have e1:(ByteArray.mk #[UInt8.ofNat b]).size=1:=rfl
 unfold stands
 rw [e1,part_one h,decide_eq_true (by omega),Bool.true_and]
 rw [toList1,show strOfNums [zs.getD k 0]=ByteArray.mk #[UInt8.ofNat (zs.getD k 0).toNat] from rfl,toList1]
 rw [List.cons_beq_cons,show (([]:List UInt8)==[])=true from rfl,Bool.and_true]
theorem stands2 {zs:List Int} (hb:Bts zs) {k:Nat} (h:k+1<zs.length) (b d:Nat) (h256:b<256) (d256:d<256):stands zs k {data:=#[UInt8.ofNat b,UInt8.ofNat d]}=((zs.getD k 0==(b:Int))&&(zs.getD (k+1) 0==(d:Int))):=by
 have hz:=hb k
 have hz':=hb (k+1)
 rw [← ofNat_eq hz.1 hz.2 h256,← ofNat_eq hz'.1 hz'.2 d256]
 have e1:(ByteArray.mk #[UInt8.ofNat b,UInt8.ofNat d]).size=2:=rfl
 unfold stands
 rw [e1,part_two h,decide_eq_true (by omega),Bool.true_and]
 rw [toList2,show strOfNums [zs.getD k 0,zs.getD (k+1) 0]=ByteArray.mk #[UInt8.ofNat (zs.getD k 0).toNat,UInt8.ofNat (zs.getD (k+1) 0).toNat] from rfl,toList2]
 rw [List.cons_beq_cons,List.cons_beq_cons,show (([]:List UInt8)==[])=true from rfl,Bool.and_true]
theorem stands2_short {zs:List Int} {k:Nat} (h:¬k+1<zs.length) (b d:Nat):stands zs k {data:=#[UInt8.ofNat b,UInt8.ofNat d]}=false:=by
 have e1:(ByteArray.mk #[UInt8.ofNat b,UInt8.ofNat d]).size=2:=rfl
 unfold stands
 rw [e1,decide_eq_false (by omega),Bool.false_and]
def sgn (c:Int):Int×Int :=
 if c=43∨c=42∨c=37∨c=40∨c=41∨c=123∨c=125∨c=91∨c=93∨c=59∨c=44 then (1,0)
 else if c=61∨c=60∨c=62 then (1,61) else if c=46∨c=45 then (1,c) else if c=126 then (0,61) else if c=47 then (0,47) else (0,0)
def pairs:List (Nat×Nat):=[(61,61),(126,61),(60,61),(62,61),(47,47),(46,46)]
def ones:List Nat:=[43,45,42,37,60,62,61,40,41,123,125,91,93,59,44,46]
theorem signs_are:signs=pairs.map (fun p=>{data:=#[UInt8.ofNat p.1,UInt8.ofNat p.2]})++ones.map (fun b=>{data:=#[UInt8.ofNat b]}):=by rfl
theorem signLen_ones {zs:List Int} (hb:Bts zs) {k:Nat} (h:k<zs.length):∀l:List Nat,(∀b∈l,b<256)→signLen zs k (l.map fun b=>{data:=#[UInt8.ofNat b]})=if l.any (fun b=>zs.getD k 0==(b:Int)) then some 1 else none
 |[],_=>rfl
 |b::r,hl=>by
  rw [List.map_cons,signLen,stands1 hb h b (hl b (by simp)),signLen_ones hb h r (fun x hx=>hl x (by simp [hx])),List.any_cons]
  cases (zs.getD k 0==(b:Int))
  ·rw [if_neg (by decide),Bool.false_or]
  ·rfl
theorem signLen_pairs {zs:List Int} (hb:Bts zs) {k:Nat} (h:k+1<zs.length) (t:List ByteArray):∀l:List (Nat×Nat),(∀p∈l,p.1<256∧p.2<256)→signLen zs k (l.map (fun p=>{data:=#[UInt8.ofNat p.1,UInt8.ofNat p.2]})++t)=if l.any (fun p=>(zs.getD k 0==(p.1:Int))&&(zs.getD (k+1) 0==(p.2:Int))) then some 2 else signLen zs k t
 |[],_=>rfl
 |p::r,hl=>by
  rw [List.map_cons,List.cons_append,signLen,stands2 hb h p.1 p.2 (hl p (by simp)).1 (hl p (by simp)).2,signLen_pairs hb h t r (fun x hx=>hl x (by simp [hx])),List.any_cons]
  cases ((zs.getD k 0==(p.1:Int))&&(zs.getD (k+1) 0==(p.2:Int)))
  ·rw [if_neg (by decide),Bool.false_or]
  ·rfl
theorem signLen_pairs_short {zs:List Int} {k:Nat} (h:¬k+1<zs.length) (t:List ByteArray):∀l:List (Nat×Nat),signLen zs k (l.map (fun p=>{data:=#[UInt8.ofNat p.1,UInt8.ofNat p.2]})++t)=signLen zs k t
 |[]=>rfl
 |p::r=>by rw [List.map_cons,List.cons_append,signLen,stands2_short h p.1 p.2,if_neg (by decide),signLen_pairs_short h t r]
theorem sgn_cases (c:Int):((c=43∨c=42∨c=37∨c=40∨c=41∨c=123∨c=125∨c=91∨c=93∨c=59∨c=44)∧sgn c=(1,0))∨((c=61∨c=60∨c=62)∧sgn c=(1,61))∨((c=46∨c=45)∧sgn c=(1,c))∨(c=126∧sgn c=(0,61))∨(c=47∧sgn c=(0,47)) ∨
  (¬(c=43∨c=42∨c=37∨c=40∨c=41∨c=123∨c=125∨c=91∨c=93∨c=59∨c=44)∧¬(c=61∨c=60∨c=62)∧¬(c=46∨c=45)∧¬c=126∧¬c=47∧sgn c=(0,0)):=by
 unfold sgn
 by_cases h1:c=43∨c=42∨c=37∨c=40∨c=41∨c=123∨c=125∨c=91∨c=93∨c=59∨c=44
 ·rw [if_pos h1];exact .inl ⟨h1,rfl⟩
 ·rw [if_neg h1]
  by_cases h2:c=61∨c=60∨c=62
  ·rw [if_pos h2];exact .inr (.inl ⟨h2,rfl⟩)
  ·rw [if_neg h2]
   by_cases h3:c=46∨c=45
   ·rw [if_pos h3];exact .inr (.inr (.inl ⟨h3,rfl⟩))
   ·rw [if_neg h3]
    by_cases h4:c=126
    ·rw [if_pos h4];exact .inr (.inr (.inr (.inl ⟨h4,rfl⟩)))
    ·rw [if_neg h4]
     by_cases h5:c=47
     ·rw [if_pos h5];exact .inr (.inr (.inr (.inr (.inl ⟨h5,rfl⟩))))
     ·rw [if_neg h5];exact .inr (.inr (.inr (.inr (.inr ⟨h1,h2,h3,h4,h5,rfl⟩))))
theorem any_ones (c:Int):ones.any (fun b=>c==(b:Int))=true↔(sgn c).1=1:=by
 simp only [ones,List.any_cons,List.any_nil,Bool.or_false,Bool.or_eq_true,beq_iff_eq]
 rcases sgn_cases c with ⟨h,e⟩|⟨h,e⟩|⟨h,e⟩|⟨h,e⟩|⟨h,e⟩|⟨h1,h2,h3,h4,h5,e⟩ <;> rw [e]
 ·exact ⟨fun _=>rfl,fun _=>by omega⟩
 ·exact ⟨fun _=>rfl,fun _=>by omega⟩
 ·exact ⟨fun _=>rfl,fun _=>by omega⟩
 ·exact ⟨fun _=>by omega,fun h=>by simp at h⟩
 ·exact ⟨fun _=>by omega,fun h=>by simp at h⟩
 ·exact ⟨fun _=>by omega,fun h=>by simp at h⟩
theorem any_pairs (c d:Int):pairs.any (fun p=>(c==(p.1:Int))&&(d==(p.2:Int)))=true↔((sgn c).2=d∧¬d=0∧¬c=45):=by
 simp only [pairs,List.any_cons,List.any_nil,Bool.or_false,Bool.or_eq_true,Bool.and_eq_true,beq_iff_eq]
 rcases sgn_cases c with ⟨h,e⟩|⟨h,e⟩|⟨h,e⟩|⟨h,e⟩|⟨h,e⟩|⟨h1,h2,h3,h4,h5,e⟩ <;> rw [e] <;> simp only <;> omega
theorem sgn_fst (c:Int):(sgn c).1=0∨(sgn c).1=1:=by
 rcases sgn_cases c with ⟨h,e⟩|⟨h,e⟩|⟨h,e⟩|⟨h,e⟩|⟨h,e⟩|⟨h1,h2,h3,h4,h5,e⟩ <;> rw [e] <;> simp
theorem sgn_dash {c:Int} (h:(sgn c).2=45):c=45:=by
 rcases sgn_cases c with ⟨_,e⟩|⟨_,e⟩|⟨_,e⟩|⟨_,e⟩|⟨_,e⟩|⟨_,_,_,_,_,e⟩ <;> rw [e] at h <;> simp at h <;> exact h
theorem sign_short {zs:List Int} (hb:Bts zs) {k:Nat} (h:k<zs.length) (hs:(sgn (zs.getD k 0)).2=0∨zs.length≤k+1∨¬zs.getD (k+1) 0=(sgn (zs.getD k 0)).2) :
  signLen zs k signs=if (sgn (zs.getD k 0)).1=0 then none else some 1:=by
 have h1:=sgn_fst (zs.getD k 0)
 have e:signLen zs k signs=signLen zs k (ones.map (fun b=>{data:=#[UInt8.ofNat b]})):=by
  rw [signs_are]
  by_cases hk:k+1<zs.length
  ·rw [signLen_pairs hb hk _ _ (by decide),if_neg]
   rw [any_pairs];omega
  ·rw [signLen_pairs_short hk]
 rw [e,signLen_ones hb h _ (by decide)]
 rcases h1 with h1|h1
 ·rw [if_pos h1,if_neg (by rw [any_ones];omega)]
 ·rw [if_pos (by rw [any_ones];exact h1),if_neg (by omega)]
theorem sign_long {zs:List Int} (hb:Bts zs) {k:Nat} (h:k+1<zs.length) (h0:¬(sgn (zs.getD k 0)).2=0) (hs:zs.getD (k+1) 0=(sgn (zs.getD k 0)).2) (h45:¬(sgn (zs.getD k 0)).2=45) :
  signLen zs k signs=some 2:=by
 have hc:¬zs.getD k 0=45:=fun e=>h45 (by rw [e];rfl)
 rw [signs_are,signLen_pairs hb h _ _ (by decide),if_pos]
 rw [any_pairs];omega
theorem span_drop (p:Int→Bool) (zs:List Int) (k:Nat):span p (zs.drop k) 0=span p zs k:=by unfold span;rw [List.drop_zero]
theorem rc_drop2 (zs:List Int) (k i:Nat) (h:k+i<zs.length):rc (zs.drop k) i=rc zs (k+i):=by
 rw [← rc_drop zs (k+i) h,← List.drop_drop,rc_drop _ _ (by rw [List.length_drop];omega)]
theorem rl_drop {zs:List Int} (hb:Bts zs) (q:Int) (k:Nat):∀(j i:Nat) (out:List Int),zs.length-(k+i)≤j→rl q zs (k+i) out=(rl q (zs.drop k) i out).map (fun p=>(p.1,k+p.2)):=by
 intro j
 induction j with
 |zero =>
  intro i out hj
  rw [rl_end (by omega),rl_end (by rw [List.length_drop];omega)];rfl
 |succ j ih =>
  intro i out hj
  by_cases hi:k+i<zs.length
  ·have hi':i<(zs.drop k).length:=by rw [List.length_drop];omega
   by_cases hq:zs.getD (k+i) 0=q
   ·rw [rl_close hi hq,rl_close hi' (by rw [getD_drop];exact hq)];rfl
   ·have hq':¬(zs.drop k).getD i 0=q:=by rw [getD_drop];exact hq
    cases hc:rc zs (k+i) with
    |none=>rw [rl_bad hi hq hc,rl_bad hi' hq' (by rw [rc_drop2 _ _ _ hi];exact hc)];rfl
    |some p =>
     obtain ⟨c,s⟩:=p
     have f:=rc_fits hb hi hc
     rw [rl_step hi hq hc (by omega),rl_step hi' hq' (by rw [rc_drop2 _ _ _ hi];exact hc) (by omega),Nat.add_assoc]
     exact ih (i+s) _ (by omega)
  ·rw [rl_end hi,rl_end (by rw [List.length_drop];omega)];rfl
theorem litAt_drop {zs:List Int} (hb:Bts zs) {k:Nat} (hk:k<zs.length):litAt zs k=(litAt (zs.drop k) 0).map (fun p=>(p.1,k+p.2)):=by
 unfold litAt
 rw [getD_drop,Nat.add_zero,List.length_drop]
 by_cases hq:zs.getD k 0=34∨zs.getD k 0=39
 ·rw [if_pos ⟨hk,hq⟩,if_pos ⟨by omega,hq⟩]
  exact rl_drop hb _ k zs.length 1 [] (by omega)
 ·rw [if_neg (fun h=>hq h.2),if_neg (fun h=>hq h.2)];rfl
def Leaps (J:Nat→Act→World→Prop) (Q:Exit→Act→World→Prop):Exit→Act→World→Prop
 |.goto l,a,w=>J l a w
 |e,a,w=>Q e a w
section
variable {P:Program} {a:Act} {w:World} {J:Nat→Act→World→Prop} {Q:Exit→Act→World→Prop}
theorem Leaps_ret:Leaps J Q .ret a w=Q .ret a w:=rfl
theorem wp_scope_labels {c:Code} (J:Nat→Nat→Act→World→Prop)
  (first:c.wp P (Leaps (fun l a w=>∃n,J n l a w) Q) a w)
  (pass:∀n l a w,J n l a w→∃rest,findLabel c l=some rest∧rest.wp P (Leaps (fun l' a' w'=>∃m,m<n∧J m l' a' w') Q) a w):(Code.scope c).wp P Q a w:=by
 intro b k cs
 have key:∀n l a w,J n l a w→∃rest,findLabel c l=some rest∧∃e a' w',Q e a' w'∧Arrives P (lone (b.at a (.code rest::.inScope c::k)) cs w) b k cs e a' w':=by
  intro n
  induction n using Nat.strongRecOn with
  |_ n ih =>
   intro l a w hJ
   obtain ⟨rest,hf,hp⟩:=pass n l a w hJ
   refine ⟨rest,hf,?_⟩
   obtain ⟨e,a₁,w₁,hq,harr⟩:=hp b (.inScope c::k) cs
   cases e with
   |normal=>exact ⟨.normal,a₁,w₁,hq,Steps.trans harr (.one step_inScope)⟩
   |exit id=>exact ⟨.exit id,a₁,w₁,hq,fun k' hk=>harr k' (by simp [exitTo,hk])⟩
   |goto l' =>
    obtain ⟨m,hlt,hJ'⟩:=hq
    obtain ⟨rest₂,hf₂,e₂,a₂,w₂,hq₂,harr₂⟩:=ih m hlt l' a₁ w₁ hJ'
    have hg:gotoIn l' (.inScope c::k)=some (.code rest₂::.inScope c::k):=by simp [gotoIn,hf₂]
    exact ⟨e₂,a₂,w₂,hq₂,.of_steps (harr _ hg) harr₂⟩
   |ret=>exact ⟨_,a₁,w₁,hq,harr⟩
   |panic ch=>exact ⟨_,a₁,w₁,hq,harr⟩
   |outgrown=>exact ⟨_,a₁,w₁,hq,harr⟩
 obtain ⟨e,a₁,w₁,hq,harr⟩:=first b (.inScope c::k) cs
 cases e with
 |normal=>exact ⟨.normal,a₁,w₁,hq,.head step_scope (Steps.trans harr (.one step_inScope))⟩
 |exit id=>exact ⟨.exit id,a₁,w₁,hq,fun k' hk=>.head step_scope (harr k' (by simp [exitTo,hk]))⟩
 |goto l' =>
  obtain ⟨n,hJ'⟩:=hq
  obtain ⟨rest₂,hf₂,e₂,a₂,w₂,hq₂,harr₂⟩:=key n l' a₁ w₁ hJ'
  have hg:gotoIn l' (.inScope c::k)=some (.code rest₂::.inScope c::k):=by simp [gotoIn,hf₂]
  exact ⟨e₂,a₂,w₂,hq₂,.of_steps (.head step_scope (harr _ hg)) harr₂⟩
 |ret=>exact ⟨_,a₁,w₁,hq,.of_steps (.one step_scope) harr⟩
 |panic ch=>exact ⟨_,a₁,w₁,hq,.of_steps (.one step_scope) harr⟩
 |outgrown=>exact ⟨_,a₁,w₁,hq,.of_steps (.one step_scope) harr⟩
end
end lex
end Go.Proofs.YtkmiagkehcflnaaGreatDoor
