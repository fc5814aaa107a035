import Derived.Deep.RegionHeld3
import Derived.Test.YtkmiagkehcflnaaGreatDoorMLitWalks
set_option maxRecDepth 100000
set_option maxHeartbeats 8000000
namespace Go.Proofs.YtkmiagkehcflnaaGreatDoor
namespace lit
open Go.RowKit bts scn
theorem specLit_q (b off cap k:Nat) (zs:List Int) (w:World) (hb:Bts zs) (hcell:∀i,i<zs.length→w.cell? ⟨b,off+i,none⟩=some (.int .u8 (zs.getD i 0))) (hbw:b<w.heap.size) (hm:zs.length≤1073741824)
  (h0:k<zs.length) (hq:zs.getD k 0=34∨zs.getD k 0=39) :
  Calls Tryz.prog 53 #[.slice (some ⟨b,off,none⟩) zs.length cap,.int .i64 k] w fun x w'=>Below w.heap.size w w' ∧
   ((litAt zs k=none∧x=.returned (.tuple #[.slice none 0 0,.int .i64 0])) ∨
   ∃t e ao c,litAt zs k=some (t,e)∧x=.returned (.tuple #[.slice ao t.length c,.int .i64 ((e:Int)-(k:Int))])∧OwnT w' w.heap.size ao c t):=by
 obtain ⟨i0,hi,hz0,hz1,hz2⟩:=info_parts info_u8
 have hA:litAt zs k=rl (zs.getD k 0) zs (k+1) []:=by unfold litAt;rw [if_pos ⟨h0,hq⟩]
 have hc0:=hcell k h0
 obtain ⟨q,hqq⟩:∃q,q=zs.getD k 0:=⟨_,rfl⟩
 rw [← hqq] at hA hc0 hq
 obtain ⟨n,hnn⟩:∃n,n=zs.length:=⟨_,rfl⟩
 have HL:Hid (zs.length=n):=hnn.symm
 have HB:Hid (Bts zs):=hb
 have HC:Hid (∀i,i<zs.length→w.cell? ⟨b,off+i,none⟩=some (.int .u8 (zs.getD i 0))):=hcell
 have HA:Hid (litAt zs k=rl q zs (k+1) []):=hA
 rw [← hnn] at hm h0 ⊢
 clear hqq hnn hA hb hcell
 have hd0:decide (n≤k)=false:=by simp;omega
 have hd1:decide ((n:Int)≤(k:Int))=false:=by simp;omega
 go_enter Tryz.func53,Tryz.ntmps53
 have hf:(q != 34)=false∨((q != 34)=true∧(q != 39)=false):=by
  rcases hq with rfl|rfl
  ·exact .inl rfl
  ·exact .inr ⟨rfl,rfl⟩
 clear hq
 rcases hf with f1|⟨f1,f2⟩
 all_goals
  go_wp2
  go_loopw [6,7] (fun v a wr=>∃(i m c:Nat) (ao:Option Addr) (out:List Int),i≤n∧k+1≤i∧m<i∧a=.int .i64 i∧v=.slice ao m c∧Hid (out.length=m)∧wr.ownsRow w.heap.size 5 1 (.slice ao m c) m (bcells out)∧Hid (litAt zs k=rl q zs i out)∧Below w.heap.size w wr) (fun _ a _=>n-(intOf a).toNat)
  case atStart=>exact ⟨k+1,0,0,none,[],by omega,by omega,by omega,by go_num,rfl,rfl,World.ownsRow_nil _ _ _ _,HA,Below.refl _ _⟩
  case round =>
   obtain ⟨i,m,c,ao,out,hi0,hi1,hmi,rfl,rfl,HO,hown,HR,hbel⟩:=hrel
   have hcq:wr.cell? ⟨b,off+k,none⟩=some (.int .u8 q):=(hbel.cell (p:=⟨b,off+k,none⟩) hbw).trans hc0
   by_cases hlt:i<n
   ·have hci:wr.cell? ⟨b,off+i,none⟩=some (.int .u8 (zs.getD i 0)):=(hbel.cell (p:=⟨b,off+i,none⟩) hbw).trans (HC.out i (by rw [HL.out];exact hlt))
    obtain ⟨z,hz⟩:∃z,z=zs.getD i 0:=⟨_,rfl⟩
    have bz:=HB.out i
    rw [← hz] at hci bz
    have HZ:Hid (zs.getD i 0=z):=hz.symm
    have HI:Hid (i<zs.length):=by show _<_;rw [HL.out];exact hlt
    have i1:(i:Int)<(n:Int):=by omega
    have i2:(k:Int)<(n:Int):=by omega
    clear hz
    by_cases hzq:z=q
    ·subst hzq
     have HE:Hid (litAt zs k=some (out,i+1)):=by show _=_;rw [HR.out,rl_close HI.out HZ.out]
     go_wp2
     go_quiet (fail)
     go_wp2
     go_ret2
     refine ⟨below_drewN hbel _,.inr ⟨out,i+1,ao,c,HE.out,by rw [HO.out];simp,?_⟩⟩
     unfold OwnT
     rw [HO.out]
     exact own_heap hown (same_drewN _ _)
    ·have hzf:(z==q)=false:=by simpa using hzq
     have HQ:Hid (¬zs.getD i 0=q):=by show ¬_;rw [HZ.out];exact hzq
     clear hzq
     go_wp2
     go_quiet (fail)
     have h5:Same wr (wr.drewN nq):=same_drewN _ _
     generalize wr.drewN nq=w5 at h5 ⊢
     have hcz:w5.cell? ⟨b,off+i,none⟩=some (.int .u8 z):=(World.cell?_of_block (by rw [h5.1])).trans hci
     have hcj:∀j,i+j<n→w5.cell? ⟨b,off+(i+j),none⟩=some (.int .u8 (zs.getD (i+j) 0)):=fun j hj =>
      ((hbel.trans (h5.2 _)).cell (p:=⟨b,off+(i+j),none⟩) hbw).trans (HC.out (i+j) (by rw [HL.out];exact hj))
     have hown5:w5.ownsRow w.heap.size 5 1 (.slice ao m c) m (bcells out):=own_heap hown h5
     have HBel:Hid (Below w.heap.size w w5):=hbel.trans (h5.2 _)
     have hgB:∀k,(Value.slice ao m c).ownBlock=some k→w.heap.size≤k:=fun k hk=>(hown.lt k hk).1
     have hBs:=HBel.out.size
     clear hcq hci hown hbel h5
     by_cases a1:z=10
     ·subst a1
      clear hcj
      have HE:Hid (litAt zs k=none):=by show _=_;rw [HR.out,rl_bad HI.out HQ.out (rc_lf HZ.out)]
      go_wp2
      go_ret2
      exact ⟨HBel.out,.inl ⟨HE.out,rfl⟩⟩
     by_cases a2:z=92
     ·subst a2
      by_cases a3:n≤i+1
      ·clear hcj
       have HE:Hid (litAt zs k=none):=by show _=_;rw [HR.out,rl_bad HI.out HQ.out (rc_short HZ.out (by rw [HL.out];exact a3))]
       go_wp2
       go_ret2
       exact ⟨HBel.out,.inl ⟨HE.out,rfl⟩⟩
      have hc1:=hcj 1 (by omega)
      obtain ⟨e,he⟩:∃e,e=zs.getD (i+1) 0:=⟨_,rfl⟩
      have be:=HB.out (i+1)
      rw [← he] at hc1 be
      have H1:Hid (zs.getD (i+1) 0=e):=he.symm
      have HN1:Hid (¬zs.length≤i+1):=by show ¬_;rw [HL.out];exact a3
      clear he
      by_cases a4:e=120
      ·subst a4
       by_cases a5:n≤i+3
       ·clear hcj
        have HE:Hid (litAt zs k=none):=by show _=_;rw [HR.out,rl_bad HI.out HQ.out (rc_hshort HZ.out HN1.out H1.out (by rw [HL.out];exact a5))]
        go_wp2
        go_ret2
        exact ⟨HBel.out,.inl ⟨HE.out,rfl⟩⟩
       have hc2:=hcj 2 (by omega)
       have hc3:=hcj 3 (by omega)
       obtain ⟨y2,he2⟩:∃e,e=zs.getD (i+2) 0:=⟨_,rfl⟩
       obtain ⟨y3,he3⟩:∃e,e=zs.getD (i+3) 0:=⟨_,rfl⟩
       have by2:=HB.out (i+2)
       have by3:=HB.out (i+3)
       rw [← he2] at hc2 by2
       rw [← he3] at hc3 by3
       have H2:Hid (zs.getD (i+2) 0=y2):=he2.symm
       have H3:Hid (zs.getD (i+3) 0=y3):=he3.symm
       have HN3:Hid (¬zs.length≤i+3):=by show ¬_;rw [HL.out];exact a5
       obtain ⟨y20,y21⟩:=by2
       obtain ⟨y30,y31⟩:=by3
       have x2:=hexv_bd y2
       have x3:=hexv_bd y3
       clear he2 he3 hcj
       by_cases a6:hexv y2<0
       ·have HX:Hid (hexv (zs.getD (i+2) 0)<0∨hexv (zs.getD (i+3) 0)<0):=.inl (by rw [H2.out];exact a6)
        have HE:Hid (litAt zs k=none):=by show _=_;rw [HR.out,rl_bad HI.out HQ.out (rc_hbad HZ.out HN1.out H1.out HN3.out HX.out)]
        go_wp2_with (go_at_call 89;refine (l1hex_any _ (by assumption) (by assumption) _).mono ?_;rintro x w' ⟨rfl,hw⟩;replace hw:=hw.symm;subst hw)
        go_ret2
        exact ⟨HBel.out,.inl ⟨HE.out,rfl⟩⟩
       by_cases a7:hexv y3<0
       ·have HX:Hid (hexv (zs.getD (i+2) 0)<0∨hexv (zs.getD (i+3) 0)<0):=.inr (by rw [H3.out];exact a7)
        have HE:Hid (litAt zs k=none):=by show _=_;rw [HR.out,rl_bad HI.out HQ.out (rc_hbad HZ.out HN1.out H1.out HN3.out HX.out)]
        go_wp2_with (go_at_call 89;refine (l1hex_any _ (by assumption) (by assumption) _).mono ?_;rintro x w' ⟨rfl,hw⟩;replace hw:=hw.symm;subst hw)
        go_ret2
        exact ⟨HBel.out,.inl ⟨HE.out,rfl⟩⟩
       have HE:Hid (litAt zs k=rl q zs (i+4) (out++[hexv y2*16+hexv y3])):=by show _=_;rw [HR.out,rl_step HI.out HQ.out (rc_hex HZ.out HN1.out H1.out HN3.out H2.out H3.out a6 a7) (by omega)]
       go_wp2_with (go_at_call 89;refine (l1hex_any _ (by assumption) (by assumption) _).mono ?_;rintro x w' ⟨rfl,hw⟩;replace hw:=hw.symm;subst hw)
       have hx0:0≤hexv y2:=by omega
       have hx1:0≤hexv y3:=by omega
       have HY:Hid (hexv y2≤15∧hexv y3≤15):=⟨x2.2,x3.2⟩
       have k2:((i:Int)+2)<(n:Int):=by omega
       have k3:((i:Int)+3)<(n:Int):=by omega
       have hb5:b<w5.heap.size:=by omega
       have hnb:some b≠(Value.slice ao m c).ownBlock:=fun h=>absurd (hgB b h.symm) (by omega)
       have q1:IntKind.i64.wrap ((i:Int)+2)=(i:Int)+2:=IntWalk.i64_in _ ⟨by omega,by omega⟩
       have q2:IntKind.i64.wrap ((i:Int)+3)=(i:Int)+3:=IntWalk.i64_in _ ⟨by omega,by omega⟩
       have q3:IntKind.i64.wrap (hexv y2*16)=hexv y2*16:=IntWalk.i64_in _ ⟨by omega,by omega⟩
       have q4:IntKind.i64.wrap (hexv y2*16+hexv y3)=hexv y2*16+hexv y3:=IntWalk.i64_in _ ⟨by omega,by omega⟩
       have q5:IntKind.u8.wrap (hexv y2*16+hexv y3)=hexv y2*16+hexv y3:=IntWalk.u8_in _ ⟨by omega,by omega⟩
       have q6:((i:Int)+2).toNat=i+2:=by omega
       have q7:((i:Int)+3).toNat=i+3:=by omega
       have q8:(0:Int)≤(i:Int)+2:=by omega
       have q9:(0:Int)≤(i:Int)+3:=by omega
       go_region_held3 (fun w'=>w'.cell? ⟨b,off+(i+2),none⟩=some (.int .u8 y2)∧w'.cell? ⟨b,off+(i+3),none⟩=some (.int .u8 y3)) (first|go_keep|(go_split_ands;refine ⟨?_,?_⟩ <;> (rw [hgrow.cell_far _ (by simp;omega) hnb];assumption))) (first|(go_at_call 89;refine (l1hex_any _ (by assumption) (by assumption) _).mono ?_;rintro x w' ⟨rfl,rfl⟩)|((refine step_append_lies _ (by rfl) _ _ _ (by rfl) w.heap.size 5 i0 (.int .u8 0) 1 1 Tryz.underlying22 hi hz0 hz1 hz2 rfl (by omega) _ m (bcells out) (by rfl) ((hown5.alloc _).drew) ⟨w5.heap.size,0,none⟩ 1 1 [.int .u8 (hexv y2*16+hexv y3)] (by rfl) (by rfl) (World.news_of_block (cs:=#[.int .u8 (hexv y2*16+hexv y3)]) (t:=5) (fr:=(0,0)) (heap_alloc_new w5 _)) (by simp [Value.oneCell']) (by omega) (by unfold maxLen;omega) (by omega) (by simp;omega) (w5.heap.size+1) (by simp) ?_;intro g' cap' w1 hown1 hgrow hat hlt2)))
       all_goals
        go_wp2
        go_roundw
        case rel=>exact ⟨i+4,m+1,cap',some ⟨g',0,none⟩,out++[hexv y2*16+hexv y3],by omega,by omega,by omega,by go_num,rfl,by show _=_;rw [List.length_append,HO.out];rfl,own_push HO.out hown1,HE,((HBel.out.alloc (by omega) _).drew).grown hgrow (by simp;omega) hgB⟩
        case measure=>simp [intOf];omega
      have e120:(e==120)=false:=by simp;omega
      by_cases a5:e=110
      ·subst a5
       clear hcj
       have HE:Hid (litAt zs k=rl q zs (i+2) (out++[10])):=by show _=_;rw [HR.out,rl_step HI.out HQ.out (rc_n HZ.out HN1.out H1.out) (by omega)]
       go_wp2_with (at_builtin;refine wpList_append_lies _ rfl _ _ _ rfl w.heap.size 5 i0 (.int .u8 0) 1 1 Tryz.underlying22 hi hz0 hz1 hz2 rfl (by omega) _ m (bcells out) rfl (hown5.alloc _) ⟨w5.heap.size,0,none⟩ 1 1 [.int .u8 10] rfl rfl (World.news_of_block (cs:=#[.int .u8 10]) (t:=5) (fr:=(0,0)) (heap_alloc_new w5 _)) (by simp [Value.oneCell']) (by omega) (by unfold maxLen;omega) (by omega) (by simp;omega) (w5.heap.size+1) (by simp) ?_;intro g' cap' w1 hown1 hgrow hat hlt2)
       go_roundw
       case rel=>exact ⟨i+2,m+1,cap',some ⟨g',0,none⟩,out++[10],by omega,by omega,by omega,by go_num,rfl,by show _=_;rw [List.length_append,HO.out];rfl,own_push HO.out hown1,HE,(HBel.out.alloc (by omega) _).grown hgrow (by simp;omega) hgB⟩
       case measure=>simp [intOf];omega
      by_cases a6:e=116
      ·subst a6
       clear hcj
       have HE:Hid (litAt zs k=rl q zs (i+2) (out++[9])):=by show _=_;rw [HR.out,rl_step HI.out HQ.out (rc_t HZ.out HN1.out H1.out) (by omega)]
       go_wp2_with (at_builtin;refine wpList_append_lies _ rfl _ _ _ rfl w.heap.size 5 i0 (.int .u8 0) 1 1 Tryz.underlying22 hi hz0 hz1 hz2 rfl (by omega) _ m (bcells out) rfl (hown5.alloc _) ⟨w5.heap.size,0,none⟩ 1 1 [.int .u8 9] rfl rfl (World.news_of_block (cs:=#[.int .u8 9]) (t:=5) (fr:=(0,0)) (heap_alloc_new w5 _)) (by simp [Value.oneCell']) (by omega) (by unfold maxLen;omega) (by omega) (by simp;omega) (w5.heap.size+1) (by simp) ?_;intro g' cap' w1 hown1 hgrow hat hlt2)
       go_roundw
       case rel=>exact ⟨i+2,m+1,cap',some ⟨g',0,none⟩,out++[9],by omega,by omega,by omega,by go_num,rfl,by show _=_;rw [List.length_append,HO.out];rfl,own_push HO.out hown1,HE,(HBel.out.alloc (by omega) _).grown hgrow (by simp;omega) hgB⟩
       case measure=>simp [intOf];omega
      have e110:(e==110)=false:=by simp;omega
      have e116:(e==116)=false:=by simp;omega
      by_cases a7:e=92∨e=34∨e=39
      ·clear hcj
       rcases a7 with rfl|rfl|rfl
       ·skip
        have HE:Hid (litAt zs k=rl q zs (i+2) (out++[92])):=by show _=_;rw [HR.out,rl_step HI.out HQ.out (rc_esc HZ.out HN1.out H1.out (by omega)) (by omega)]
        go_wp2_with (at_builtin;refine wpList_append_lies _ rfl _ _ _ rfl w.heap.size 5 i0 (.int .u8 0) 1 1 Tryz.underlying22 hi hz0 hz1 hz2 rfl (by omega) _ m (bcells out) rfl (hown5.alloc _) ⟨w5.heap.size,0,none⟩ 1 1 [.int .u8 92] rfl rfl (World.news_of_block (cs:=#[.int .u8 92]) (t:=5) (fr:=(0,0)) (heap_alloc_new w5 _)) (by simp [Value.oneCell']) (by omega) (by unfold maxLen;omega) (by omega) (by simp;omega) (w5.heap.size+1) (by simp) ?_;intro g' cap' w1 hown1 hgrow hat hlt2)
        go_roundw
        case rel=>exact ⟨i+2,m+1,cap',some ⟨g',0,none⟩,out++[92],by omega,by omega,by omega,by go_num,rfl,by show _=_;rw [List.length_append,HO.out];rfl,own_push HO.out hown1,HE,(HBel.out.alloc (by omega) _).grown hgrow (by simp;omega) hgB⟩
        case measure=>simp [intOf];omega
       ·skip
        have HE:Hid (litAt zs k=rl q zs (i+2) (out++[34])):=by show _=_;rw [HR.out,rl_step HI.out HQ.out (rc_esc HZ.out HN1.out H1.out (by omega)) (by omega)]
        go_wp2_with (at_builtin;refine wpList_append_lies _ rfl _ _ _ rfl w.heap.size 5 i0 (.int .u8 0) 1 1 Tryz.underlying22 hi hz0 hz1 hz2 rfl (by omega) _ m (bcells out) rfl (hown5.alloc _) ⟨w5.heap.size,0,none⟩ 1 1 [.int .u8 34] rfl rfl (World.news_of_block (cs:=#[.int .u8 34]) (t:=5) (fr:=(0,0)) (heap_alloc_new w5 _)) (by simp [Value.oneCell']) (by omega) (by unfold maxLen;omega) (by omega) (by simp;omega) (w5.heap.size+1) (by simp) ?_;intro g' cap' w1 hown1 hgrow hat hlt2)
        go_roundw
        case rel=>exact ⟨i+2,m+1,cap',some ⟨g',0,none⟩,out++[34],by omega,by omega,by omega,by go_num,rfl,by show _=_;rw [List.length_append,HO.out];rfl,own_push HO.out hown1,HE,(HBel.out.alloc (by omega) _).grown hgrow (by simp;omega) hgB⟩
        case measure=>simp [intOf];omega
       ·skip
        have HE:Hid (litAt zs k=rl q zs (i+2) (out++[39])):=by show _=_;rw [HR.out,rl_step HI.out HQ.out (rc_esc HZ.out HN1.out H1.out (by omega)) (by omega)]
        go_wp2_with (at_builtin;refine wpList_append_lies _ rfl _ _ _ rfl w.heap.size 5 i0 (.int .u8 0) 1 1 Tryz.underlying22 hi hz0 hz1 hz2 rfl (by omega) _ m (bcells out) rfl (hown5.alloc _) ⟨w5.heap.size,0,none⟩ 1 1 [.int .u8 39] rfl rfl (World.news_of_block (cs:=#[.int .u8 39]) (t:=5) (fr:=(0,0)) (heap_alloc_new w5 _)) (by simp [Value.oneCell']) (by omega) (by unfold maxLen;omega) (by omega) (by simp;omega) (w5.heap.size+1) (by simp) ?_;intro g' cap' w1 hown1 hgrow hat hlt2)
        go_roundw
        case rel=>exact ⟨i+2,m+1,cap',some ⟨g',0,none⟩,out++[39],by omega,by omega,by omega,by go_num,rfl,by show _=_;rw [List.length_append,HO.out];rfl,own_push HO.out hown1,HE,(HBel.out.alloc (by omega) _).grown hgrow (by simp;omega) hgB⟩
        case measure=>simp [intOf];omega
      have e92:(e==92)=false:=by simp;omega
      have e34:(e==34)=false:=by simp;omega
      have e39:(e==39)=false:=by simp;omega
      clear hcj
      have HE:Hid (litAt zs k=none):=by show _=_;rw [HR.out,rl_bad HI.out HQ.out (rc_none HZ.out HN1.out H1.out a4 a5 a6 (by omega) (by omega) (by omega))]
      have n92:(e != 92)=true:=by simp;omega
      have n34:(e != 34)=true:=by simp;omega
      have n39:(e != 39)=true:=by simp;omega
      have m92:¬e=92:=by omega
      have m34:¬e=34:=by omega
      have m39:¬e=39:=by omega
      clear a4 a5 a6 a7
      go_wp2
      go_ret2
      exact ⟨HBel.out,.inl ⟨HE.out,rfl⟩⟩
     ·have e10:(z==10)=false:=by simp;omega
      have e92:(z==92)=false:=by simp;omega
      have HRC:Hid (rc zs i=some (z,1)):=rc_self HZ.out a1 a2
      clear a1 a2 hcj
      have HE:Hid (litAt zs k=rl q zs (i+1) (out++[z])):=by show _=_;rw [HR.out,rl_step HI.out HQ.out (HRC.out) (by omega)]
      go_wp2_with (at_builtin;refine wpList_append_lies _ rfl _ _ _ rfl w.heap.size 5 i0 (.int .u8 0) 1 1 Tryz.underlying22 hi hz0 hz1 hz2 rfl (by omega) _ m (bcells out) rfl (hown5.alloc _) ⟨w5.heap.size,0,none⟩ 1 1 [.int .u8 z] rfl rfl (World.news_of_block (cs:=#[.int .u8 z]) (t:=5) (fr:=(0,0)) (heap_alloc_new w5 _)) (by simp [Value.oneCell']) (by omega) (by unfold maxLen;omega) (by omega) (by simp;omega) (w5.heap.size+1) (by simp) ?_;intro g' cap' w1 hown1 hgrow hat hlt2)
      go_roundw
      case rel=>exact ⟨i+1,m+1,cap',some ⟨g',0,none⟩,out++[z],by omega,by omega,by omega,by go_num,rfl,by show _=_;rw [List.length_append,HO.out];rfl,own_push HO.out hown1,HE,(HBel.out.alloc (by omega) _).grown hgrow (by simp;omega) hgB⟩
      case measure=>simp [intOf];omega
   ·have HE:Hid (litAt zs k=none):=by show _=_;rw [HR.out,rl_end (by rw [HL.out];exact hlt)]
    have hd:decide ((i:Int)<(n:Int))=false:=by simp;omega
    go_wp2
    go_quiet (fail)
    go_wp2
    go_ret2
    exact ⟨below_drewN hbel _,.inl ⟨HE.out,rfl⟩⟩
end lit
end Go.Proofs.YtkmiagkehcflnaaGreatDoor
