import Derived.Test.YtkmiagkehcflnaaGreatDoorMIpTab
set_option maxRecDepth 100000
set_option maxHeartbeats 8000000
namespace Go.Proofs.YtkmiagkehcflnaaGreatDoor
namespace scn
open Go.RowKit bts
theorem ret_int {k:IntKind} {a b:Int} (h:a=b):Ending.returned (.int k a)=.returned (.int k b):=by rw [h]
theorem ret_two {a b c d:Int} (p:Int×Int) (h:p=(a,b)) (e:c=p.1) (e':d=p.2):Ending.returned (.tuple #[.int .i64 a,.int .i64 b])=.returned (.tuple #[.int .i64 c,.int .i64 d]):=by
 subst h;subst e;subst e';rfl
theorem l1hex_any (c:Int) (h0:0≤c) (h1:c≤255) (w:World) :
  Calls Tryz.prog 89 #[.int .u8 c] w fun e w'=>e=.returned (.int .i64 (hexv c))∧w'=w:=by
 have hc:(0≤c∧c<48)∨(48≤c∧c≤57)∨(57<c∧c<65)∨(65≤c∧c≤70)∨(70<c∧c<97)∨(97≤c∧c≤102)∨(102<c∧c≤255):=by omega
 rcases hc with ⟨a,b⟩|⟨a,b⟩|⟨a,b⟩|⟨a,b⟩|⟨a,b⟩|⟨a,b⟩|⟨a,b⟩
 all_goals
  go_enter Tryz.func89,Tryz.ntmps89
  go_wp2
  go_ret
  exact ⟨ret_int (by unfold hexv;(repeat' split) <;> omega),rfl⟩
theorem digit_any (c:Int) (h0:0≤c) (h1:c≤255) (w:World) :
  Calls Tryz.prog 101 #[.int .u8 c] w fun e w'=>e=.returned (.int .i64 (digv c))∧w'=w:=by
 have hc:(0≤c∧c<48)∨(48≤c∧c≤57)∨(57<c∧c<65)∨(65≤c∧c≤70)∨(70<c∧c<97)∨(97≤c∧c≤102)∨(102<c∧c≤255):=by omega
 rcases hc with ⟨a,b⟩|⟨a,b⟩|⟨a,b⟩|⟨a,b⟩|⟨a,b⟩|⟨a,b⟩|⟨a,b⟩
 all_goals
  go_enter Tryz.func101,Tryz.ntmps101
  go_wp2
  go_ret
  exact ⟨ret_int (by unfold digv hexv;(repeat' split) <;> omega),rfl⟩
theorem fin2 {zs:List Int} {a b:Int} (h:scan zs=(a,b)):Ending.returned (.tuple #[.int .i64 a,.int .i64 b])=.returned (.tuple #[.int .i64 (scan zs).1,.int .i64 (scan zs).2]):=by rw [h]
theorem digv_bad {z base:Int} (h:base≤digv z) (_h16:base≤16):hexv z<0∨base≤hexv z:=by
 unfold digv at h;split at h <;> omega
theorem digv_good {z base:Int} (h:¬base≤digv z) (h16:base≤16):¬hexv z<0∧¬base≤hexv z∧digv z=hexv z:=by
 unfold digv at h ⊢;split at h <;> rename_i h2
 ·omega
 ·exact ⟨h2,h,by rw [if_neg h2]⟩
theorem spec_hex (b off cap:Nat) (zs:List Int) (hb:Bts zs) (w:World) (hcell:∀i,i<zs.length→w.cell? ⟨b,off+i,none⟩=some (.int .u8 (zs.getD i 0))) (hcap:zs.length≤cap) (hm:cap≤9223372036854775807)
  (h2:2<zs.length) (h48:zs.getD 0 0=48) (hx1:zs.getD 1 0=120∨zs.getD 1 0=88) :
  Calls Tryz.prog 52 #[.slice (some ⟨b,off,none⟩) zs.length cap] w fun e w'=>e=.returned (.tuple #[.int .i64 (scan zs).1,.int .i64 (scan zs).2])∧w'=w:=by
 have hX:hx zs=true:=by simp only [hx,h48];rcases hx1 with h|h <;> rw [h] <;> simp <;> omega
 have hS:=scan_hex hX h2
 have hc0:=hcell 0 (by omega)
 have hc1:=hcell 1 (by omega)
 rw [h48,Nat.add_zero] at hc0
 obtain ⟨n,hnn⟩:∃n,n=zs.length:=⟨_,rfl⟩
 rw [← hnn] at hcap h2 hS ⊢
 have HS:Hid (scan zs=res n (sc 16 0 (zs.drop 2))):=hS
 have hcell2:∀i,i<n-2→w.cell? ⟨b,off+2+i,none⟩=some (.int .u8 ((zs.drop 2).getD i 0)):=by
  intro i hi
  have:=hcell (2+i) (by omega)
  rw [← Nat.add_assoc] at this
  rw [this]
  simp [List.getD_eq_getElem?_getD,List.getElem?_drop]
 have hb2:=hb.drop 2
 have HLD:Hid ((zs.drop 2).length=n-2):=by show _=_;rw [List.length_drop];omega
 obtain ⟨ds,hds⟩:∃ds,ds=zs.drop 2:=⟨_,rfl⟩
 rw [← hds] at HS hcell2 hb2 HLD
 have HC:Hid (∀i,i<n-2→w.cell? ⟨b,off+2+i,none⟩=some (.int .u8 (ds.getD i 0))):=hcell2
 have HB:Hid (Bts ds):=hb2
 clear hnn hS hcell hX hcell2 hb2 hds h48 hb
 have hne:(((n-2:Nat):Int)==0)=false:=by simp;omega
 rcases hx1 with h|h <;> rw [h] at hc1 <;> clear h
 all_goals
  go_enter Tryz.func52,Tryz.ntmps52
  go_wp2
  go_loop [6,7] (fun q i=>∃(k:Nat) (v:Int),k≤n-2∧i=.int .i64 k∧q=.int .i64 v∧Hid (sc 16 0 ds=sc 16 v (ds.drop k))) (fun _ i=>n-2-(intOf i).toNat)
  case atStart=>exact ⟨0,0,Nat.zero_le _,rfl,rfl,rfl⟩
  case round =>
   obtain ⟨k,v,hk,rfl,rfl,HR⟩:=hrel
   by_cases hlt:k<n-2
   ·have hc:=HC.out k hlt
    have hzz:=HB.out k
    obtain ⟨z,hz⟩:∃z,z=ds.getD k 0:=⟨_,rfl⟩
    rw [← hz] at hc hzz
    have HZ:Hid (z=ds.getD k 0):=hz
    have HK:Hid (k<ds.length):=by show _<_;rw [HLD.out];exact hlt
    obtain ⟨hz1,hz2⟩:=hzz
    have hd:=hexv_bd z
    clear hz
    by_cases hbad:hexv z<0
    ·go_wp2_with (go_at_call 89;refine (l1hex_any _ hz1 hz2 _).mono ?_;rintro e w' ⟨rfl,rfl⟩)
     go_ret2
     exact ⟨fin2 (by rw [HS.out,HR.out,sc_bad HK.out (.inl (by rw [← HZ.out];omega))];rfl),rfl⟩
    ·by_cases hbig:16≤hexv z
     ·go_wp2_with (go_at_call 89;refine (l1hex_any _ hz1 hz2 _).mono ?_;rintro e w' ⟨rfl,rfl⟩)
      go_ret2
      exact ⟨fin2 (by rw [HS.out,HR.out,sc_bad HK.out (.inr (by rw [← HZ.out];omega))];rfl),rfl⟩
     ·go_wp2_with (go_at_call 89;refine (l1hex_any _ hz1 hz2 _).mono ?_;rintro e w' ⟨rfl,rfl⟩)
      go_round
      case rel=>exact ⟨k+1,_,by omega,by go_num,rfl,by show _=_;rw [HR.out,sc_good HK.out (by rw [← HZ.out];omega) (by rw [← HZ.out];omega),← HZ.out]⟩
      case measure=>simp [intOf];omega
   ·have hE:sc 16 0 ds=some v:=by rw [HR.out,sc_end (by rw [HLD.out];omega)]
    have HE:Hid (sc 16 0 ds=some v):=hE
    clear hE
    by_cases h40:40<n
    ·go_wp2
     go_ret2
     exact ⟨fin2 (by rw [HS.out,HE.out];simp only [res];rw [if_pos (by omega)]),rfl⟩
    ·go_wp2
     go_ret2
     exact ⟨fin2 (by rw [HS.out,HE.out];simp only [res];rw [if_neg (by omega)]),rfl⟩
theorem spec_dec (b off cap:Nat) (zs:List Int) (hb:Bts zs) (w:World) (hcell:∀i,i<zs.length→w.cell? ⟨b,off+i,none⟩=some (.int .u8 (zs.getD i 0))) (hcap:zs.length≤cap) (hm:cap≤9223372036854775807)
  (h0:0<zs.length) (hS:scan zs=res zs.length (sc 10 0 zs)) (hwhy:zs.length≤2∨(2<zs.length∧¬zs.getD 0 0=48)∨(2<zs.length∧zs.getD 0 0=48∧¬zs.getD 1 0=120∧¬zs.getD 1 0=88)) :
  Calls Tryz.prog 52 #[.slice (some ⟨b,off,none⟩) zs.length cap] w fun e w'=>e=.returned (.tuple #[.int .i64 (scan zs).1,.int .i64 (scan zs).2])∧w'=w:=by
 obtain ⟨n,hnn⟩:∃n,n=zs.length:=⟨_,rfl⟩
 obtain ⟨ds,hds⟩:∃ds,ds=zs:=⟨_,rfl⟩
 have HS:Hid (scan zs=res n (sc 10 0 ds)):=by show _=_;rw [hnn,hds];exact hS
 have HLD:Hid (ds.length=n):=by show _=_;rw [hds,hnn]
 have HC:Hid (∀i,i<n→w.cell? ⟨b,off+i,none⟩=some (.int .u8 (ds.getD i 0))):=by show ∀i,_;rw [hnn,hds];exact hcell
 have HB:Hid (Bts ds):=by rw [hds];exact hb
 have hc0:=hcell 0 (by omega)
 rw [Nat.add_zero] at hc0
 rcases hwhy with h|⟨h,h48⟩|⟨h,h48,hx,hX⟩
 ·rw [← hnn] at h h0 hcap ⊢
  clear hnn hds hS hcell hb hc0
  have hne:((n:Int)==0)=false:=by simp;omega
  go_enter Tryz.func52,Tryz.ntmps52
  go_wp2
  go_loop [6,7] (fun q i=>∃(k:Nat) (v:Int),k≤n∧i=.int .i64 k∧q=.int .i64 v∧Hid (sc 10 0 ds=sc 10 v (ds.drop k))) (fun _ i=>n-(intOf i).toNat)
  case atStart=>exact ⟨0,0,Nat.zero_le _,rfl,rfl,rfl⟩
  case round =>
   obtain ⟨k,v,hk,rfl,rfl,HR⟩:=hrel
   by_cases hlt:k<n
   ·have hc:=HC.out k hlt
    have hzz:=HB.out k
    obtain ⟨z,hz⟩:∃z,z=ds.getD k 0:=⟨_,rfl⟩
    rw [← hz] at hc hzz
    have HZ:Hid (z=ds.getD k 0):=hz
    have HK:Hid (k<ds.length):=by show _<_;rw [HLD.out];exact hlt
    obtain ⟨hz1,hz2⟩:=hzz
    have hd:=hexv_bd z
    clear hz
    by_cases hbad:hexv z<0
    ·go_wp2_with (go_at_call 89;refine (l1hex_any _ hz1 hz2 _).mono ?_;rintro e w' ⟨rfl,rfl⟩)
     go_ret2
     exact ⟨fin2 (by rw [HS.out,HR.out,sc_bad HK.out (.inl (by rw [← HZ.out];omega))];rfl),rfl⟩
    ·by_cases hbig:10≤hexv z
     ·go_wp2_with (go_at_call 89;refine (l1hex_any _ hz1 hz2 _).mono ?_;rintro e w' ⟨rfl,rfl⟩)
      go_ret2
      exact ⟨fin2 (by rw [HS.out,HR.out,sc_bad HK.out (.inr (by rw [← HZ.out];omega))];rfl),rfl⟩
     ·go_wp2_with (go_at_call 89;refine (l1hex_any _ hz1 hz2 _).mono ?_;rintro e w' ⟨rfl,rfl⟩)
      go_round
      case rel=>exact ⟨k+1,_,by omega,by go_num,rfl,by show _=_;rw [HR.out,sc_good HK.out (by rw [← HZ.out];omega) (by rw [← HZ.out];omega),← HZ.out]⟩
      case measure=>simp [intOf];omega
   ·have hE:sc 10 0 ds=some v:=by rw [HR.out,sc_end (by rw [HLD.out];omega)]
    have HE:Hid (sc 10 0 ds=some v):=hE
    clear hE
    have h40:¬40<n:=by omega
    go_wp2
    go_ret2
    exact ⟨fin2 (by rw [HS.out,HE.out];simp only [res];rw [if_neg (by omega)]),rfl⟩
 ·obtain ⟨z0,hz0⟩:∃z,z=zs.getD 0 0:=⟨_,rfl⟩
  rw [← hz0] at hc0 h48
  rw [← hnn] at h h0 hcap ⊢
  clear hnn hds hS hcell hb hz0
  have hne:((n:Int)==0)=false:=by simp;omega
  have hne0:(z0==48)=false:=by simp;omega
  go_enter Tryz.func52,Tryz.ntmps52
  go_wp2
  go_loop [6,7] (fun q i=>∃(k:Nat) (v:Int),k≤n∧i=.int .i64 k∧q=.int .i64 v∧Hid (sc 10 0 ds=sc 10 v (ds.drop k))) (fun _ i=>n-(intOf i).toNat)
  case atStart=>exact ⟨0,0,Nat.zero_le _,rfl,rfl,rfl⟩
  case round =>
   obtain ⟨k,v,hk,rfl,rfl,HR⟩:=hrel
   by_cases hlt:k<n
   ·have hc:=HC.out k hlt
    have hzz:=HB.out k
    obtain ⟨z,hz⟩:∃z,z=ds.getD k 0:=⟨_,rfl⟩
    rw [← hz] at hc hzz
    have HZ:Hid (z=ds.getD k 0):=hz
    have HK:Hid (k<ds.length):=by show _<_;rw [HLD.out];exact hlt
    obtain ⟨hz1,hz2⟩:=hzz
    have hd:=hexv_bd z
    clear hz
    by_cases hbad:hexv z<0
    ·go_wp2_with (go_at_call 89;refine (l1hex_any _ hz1 hz2 _).mono ?_;rintro e w' ⟨rfl,rfl⟩)
     go_ret2
     exact ⟨fin2 (by rw [HS.out,HR.out,sc_bad HK.out (.inl (by rw [← HZ.out];omega))];rfl),rfl⟩
    ·by_cases hbig:10≤hexv z
     ·go_wp2_with (go_at_call 89;refine (l1hex_any _ hz1 hz2 _).mono ?_;rintro e w' ⟨rfl,rfl⟩)
      go_ret2
      exact ⟨fin2 (by rw [HS.out,HR.out,sc_bad HK.out (.inr (by rw [← HZ.out];omega))];rfl),rfl⟩
     ·go_wp2_with (go_at_call 89;refine (l1hex_any _ hz1 hz2 _).mono ?_;rintro e w' ⟨rfl,rfl⟩)
      go_round
      case rel=>exact ⟨k+1,_,by omega,by go_num,rfl,by show _=_;rw [HR.out,sc_good HK.out (by rw [← HZ.out];omega) (by rw [← HZ.out];omega),← HZ.out]⟩
      case measure=>simp [intOf];omega
   ·have hE:sc 10 0 ds=some v:=by rw [HR.out,sc_end (by rw [HLD.out];omega)]
    have HE:Hid (sc 10 0 ds=some v):=hE
    clear hE
    by_cases h40:40<n
    ·go_wp2
     go_ret2
     exact ⟨fin2 (by rw [HS.out,HE.out];simp only [res];rw [if_pos (by omega)]),rfl⟩
    ·go_wp2
     go_ret2
     exact ⟨fin2 (by rw [HS.out,HE.out];simp only [res];rw [if_neg (by omega)]),rfl⟩
 ·have hc1:=hcell 1 (by omega)
  rw [h48] at hc0
  obtain ⟨z1,hz1⟩:∃z,z=zs.getD 1 0:=⟨_,rfl⟩
  rw [← hz1] at hc1 hx hX
  rw [← hnn] at h h0 hcap ⊢
  clear hnn hds hS hcell hb hz1 h48
  have hne:((n:Int)==0)=false:=by simp;omega
  have hne0:(z1==120)=false:=by simp;omega
  have hne1:(z1==88)=false:=by simp;omega
  go_enter Tryz.func52,Tryz.ntmps52
  go_wp2
  go_loop [6,7] (fun q i=>∃(k:Nat) (v:Int),k≤n∧i=.int .i64 k∧q=.int .i64 v∧Hid (sc 10 0 ds=sc 10 v (ds.drop k))) (fun _ i=>n-(intOf i).toNat)
  case atStart=>exact ⟨0,0,Nat.zero_le _,rfl,rfl,rfl⟩
  case round =>
   obtain ⟨k,v,hk,rfl,rfl,HR⟩:=hrel
   by_cases hlt:k<n
   ·have hc:=HC.out k hlt
    have hzz:=HB.out k
    obtain ⟨z,hz⟩:∃z,z=ds.getD k 0:=⟨_,rfl⟩
    rw [← hz] at hc hzz
    have HZ:Hid (z=ds.getD k 0):=hz
    have HK:Hid (k<ds.length):=by show _<_;rw [HLD.out];exact hlt
    obtain ⟨hz1,hz2⟩:=hzz
    have hd:=hexv_bd z
    clear hz
    by_cases hbad:hexv z<0
    ·go_wp2_with (go_at_call 89;refine (l1hex_any _ hz1 hz2 _).mono ?_;rintro e w' ⟨rfl,rfl⟩)
     go_ret2
     exact ⟨fin2 (by rw [HS.out,HR.out,sc_bad HK.out (.inl (by rw [← HZ.out];omega))];rfl),rfl⟩
    ·by_cases hbig:10≤hexv z
     ·go_wp2_with (go_at_call 89;refine (l1hex_any _ hz1 hz2 _).mono ?_;rintro e w' ⟨rfl,rfl⟩)
      go_ret2
      exact ⟨fin2 (by rw [HS.out,HR.out,sc_bad HK.out (.inr (by rw [← HZ.out];omega))];rfl),rfl⟩
     ·go_wp2_with (go_at_call 89;refine (l1hex_any _ hz1 hz2 _).mono ?_;rintro e w' ⟨rfl,rfl⟩)
      go_round
      case rel=>exact ⟨k+1,_,by omega,by go_num,rfl,by show _=_;rw [HR.out,sc_good HK.out (by rw [← HZ.out];omega) (by rw [← HZ.out];omega),← HZ.out]⟩
      case measure=>simp [intOf];omega
   ·have hE:sc 10 0 ds=some v:=by rw [HR.out,sc_end (by rw [HLD.out];omega)]
    have HE:Hid (sc 10 0 ds=some v):=hE
    clear hE
    by_cases h40:40<n
    ·go_wp2
     go_ret2
     exact ⟨fin2 (by rw [HS.out,HE.out];simp only [res];rw [if_pos (by omega)]),rfl⟩
    ·go_wp2
     go_ret2
     exact ⟨fin2 (by rw [HS.out,HE.out];simp only [res];rw [if_neg (by omega)]),rfl⟩
theorem split_hex (b off n cap:Nat) (z1:Int) (w:World) (hc0:w.cell? ⟨b,off,none⟩=some (.int .u8 48)) (hc1:w.cell? ⟨b,off+1,none⟩=some (.int .u8 z1)) (hcap:n≤cap) (_hm:cap≤9223372036854775807)
  (h2:2<n) (hx1:z1=120∨z1=88) :
  Calls Tryz.prog 100 #[.slice (some ⟨b,off,none⟩) n cap] w fun e w'=>e=.returned (.tuple #[.slice (some ⟨b,off+2,none⟩) (n-2) (cap-2),.int .i64 16])∧w'=w:=by
 rcases hx1 with rfl|rfl
 all_goals
  go_enter Tryz.func100,Tryz.ntmps100
  go_wp2
  go_ret2
  exact ⟨rfl,rfl⟩
theorem split_hex2 (b off cap:Nat) (z1:Int) (w:World) (hc0:w.cell? ⟨b,off,none⟩=some (.int .u8 48)) (hc1:w.cell? ⟨b,off+1,none⟩=some (.int .u8 z1)) (_hcap:2≤cap) (_hm:cap≤9223372036854775807)
  (hx1:z1=120∨z1=88) :
  Calls Tryz.prog 100 #[.slice (some ⟨b,off,none⟩) 2 cap] w fun e w'=>(∃a c,e=.returned (.tuple #[.slice a 0 c,.int .i64 16]))∧w'=w:=by
 rcases hx1 with rfl|rfl
 all_goals
  go_enter Tryz.func100,Tryz.ntmps100
  go_wp2
  all_goals
   go_ret2
   exact ⟨⟨_,_,rfl⟩,rfl⟩
theorem split_short (ao:Option Addr) (n cap:Nat) (w:World) (h:n<2) :
  Calls Tryz.prog 100 #[.slice ao n cap] w fun e w'=>e=.returned (.tuple #[.slice ao n cap,.int .i64 10])∧w'=w:=by
 go_enter Tryz.func100,Tryz.ntmps100
 go_wp2
 go_ret2
 exact ⟨rfl,rfl⟩
theorem split_not0 (b off n cap:Nat) (z0:Int) (w:World) (hc0:w.cell? ⟨b,off,none⟩=some (.int .u8 z0)) (hm:n≤140737488355328) (h2:2≤n) (h48:(z0==48)=false) :
  Calls Tryz.prog 100 #[.slice (some ⟨b,off,none⟩) n cap] w fun e w'=>e=.returned (.tuple #[.slice (some ⟨b,off,none⟩) n cap,.int .i64 10])∧w'=w:=by
 go_enter Tryz.func100,Tryz.ntmps100
 go_wp2
 go_ret2
 exact ⟨rfl,rfl⟩
theorem split_not1 (b off n cap:Nat) (z1:Int) (w:World) (hc0:w.cell? ⟨b,off,none⟩=some (.int .u8 48)) (hc1:w.cell? ⟨b,off+1,none⟩=some (.int .u8 z1)) (hm:n≤140737488355328) (h2:2≤n) (hx:(z1==120)=false) (hX:(z1==88)=false) :
  Calls Tryz.prog 100 #[.slice (some ⟨b,off,none⟩) n cap] w fun e w'=>e=.returned (.tuple #[.slice (some ⟨b,off,none⟩) n cap,.int .i64 10])∧w'=w:=by
 go_enter Tryz.func100,Tryz.ntmps100
 go_wp2
 go_ret2
 exact ⟨rfl,rfl⟩
theorem impl_hex (b off cap:Nat) (zs:List Int) (hb:Bts zs) (w:World) (hcell:∀i,i<zs.length→w.cell? ⟨b,off+i,none⟩=some (.int .u8 (zs.getD i 0))) (hcap:zs.length≤cap) (hm:cap≤9223372036854775807)
  (h2:2<zs.length) (h48:zs.getD 0 0=48) (hx1:zs.getD 1 0=120∨zs.getD 1 0=88) :
  Calls Tryz.prog 79 #[.slice (some ⟨b,off,none⟩) zs.length cap] w fun e w'=>e=.returned (.tuple #[.int .i64 (scan zs).1,.int .i64 (scan zs).2])∧w'=w:=by
 have hX:hx zs=true:=by simp only [hx,h48];rcases hx1 with h|h <;> rw [h] <;> simp <;> omega
 have hS:=scan_hex hX h2
 have hc0:=hcell 0 (by omega)
 have hc1:=hcell 1 (by omega)
 rw [h48,Nat.add_zero] at hc0
 obtain ⟨n,hnn⟩:∃n,n=zs.length:=⟨_,rfl⟩
 rw [← hnn] at hcap h2 hS ⊢
 have HS:Hid (scan zs=res n (sc 16 0 (zs.drop 2))):=hS
 have hcell2:∀i,i<n-2→w.cell? ⟨b,off+2+i,none⟩=some (.int .u8 ((zs.drop 2).getD i 0)):=by
  intro i hi
  have:=hcell (2+i) (by omega)
  rw [← Nat.add_assoc] at this
  rw [this]
  simp [List.getD_eq_getElem?_getD,List.getElem?_drop]
 have hb2:=hb.drop 2
 have HLD:Hid ((zs.drop 2).length=n-2):=by show _=_;rw [List.length_drop];omega
 obtain ⟨ds,hds⟩:∃ds,ds=zs.drop 2:=⟨_,rfl⟩
 rw [← hds] at HS hcell2 hb2 HLD
 have HC:Hid (∀i,i<n-2→w.cell? ⟨b,off+2+i,none⟩=some (.int .u8 (ds.getD i 0))):=hcell2
 have HB:Hid (Bts ds):=hb2
 clear hnn hS hcell hX hcell2 hb2 hds h48 hb
 have hne:(((n-2:Nat):Int)==0)=false:=by simp;omega
 go_enter Tryz.func79,Tryz.ntmps79
 go_wp2_with (go_at_call 100;refine (split_hex _ _ _ _ _ _ hc0 hc1 hcap hm h2 hx1).mono ?_;rintro e w' ⟨rfl,rfl⟩)
 go_loop [6,20] (fun q i=>∃(k:Nat) (v:Int),k≤n-2∧i=.int .i64 k∧q=.int .i64 v∧Hid (sc 16 0 ds=sc 16 v (ds.drop k))) (fun _ i=>n-2-(intOf i).toNat)
 case atStart=>exact ⟨0,0,Nat.zero_le _,rfl,rfl,rfl⟩
 case round =>
  obtain ⟨k,v,hk,rfl,rfl,HR⟩:=hrel
  by_cases hlt:k<n-2
  ·have hc:=HC.out k hlt
   have hzz:=HB.out k
   obtain ⟨z,hz⟩:∃z,z=ds.getD k 0:=⟨_,rfl⟩
   rw [← hz] at hc hzz
   have HZ:Hid (z=ds.getD k 0):=hz
   have HK:Hid (k<ds.length):=by show _<_;rw [HLD.out];exact hlt
   obtain ⟨hz1,hz2⟩:=hzz
   have hd:=digv_bd z
   clear hz
   by_cases hbig:16≤digv z
   ·have HG:Hid (hexv z<0∨16≤hexv z):=digv_bad hbig (by omega)
    go_wp2_with (go_at_call 101;refine (digit_any _ hz1 hz2 _).mono ?_;rintro e w' ⟨rfl,rfl⟩)
    go_ret2
    exact ⟨fin2 (by rw [HS.out,HR.out,sc_bad HK.out (by rw [← HZ.out];exact HG.out)];rfl),rfl⟩
   ·have HG:Hid (¬hexv z<0∧¬16≤hexv z∧digv z=hexv z):=digv_good hbig (by omega)
    go_wp2_with (go_at_call 101;refine (digit_any _ hz1 hz2 _).mono ?_;rintro e w' ⟨rfl,rfl⟩)
    go_round
    case rel=>exact ⟨k+1,_,by omega,by go_num,rfl,by show _=_;rw [HR.out,sc_good HK.out (by rw [← HZ.out];have:=HG.out.1;omega) (by rw [← HZ.out];have:=HG.out.2.1;omega),← HZ.out,HG.out.2.2]⟩
    case measure=>simp [intOf];omega
  ·have hE:sc 16 0 ds=some v:=by rw [HR.out,sc_end (by rw [HLD.out];omega)]
   have HE:Hid (sc 16 0 ds=some v):=hE
   clear hE
   by_cases h40:40<n
   ·go_wp2
    go_ret2
    exact ⟨fin2 (by rw [HS.out,HE.out];simp only [res];rw [if_pos (by omega)]),rfl⟩
   ·go_wp2
    go_ret2
    exact ⟨fin2 (by rw [HS.out,HE.out];simp only [res];rw [if_neg (by omega)]),rfl⟩
theorem impl_dec (b off cap:Nat) (zs:List Int) (hb:Bts zs) (w:World) (hcell:∀i,i<zs.length→w.cell? ⟨b,off+i,none⟩=some (.int .u8 (zs.getD i 0))) (hcap:zs.length≤cap) (hm:cap≤9223372036854775807)
  (h0:0<zs.length) (hS:scan zs=res zs.length (sc 10 0 zs)) (hsp:∀w',w'=w→Calls Tryz.prog 100 #[.slice (some ⟨b,off,none⟩) zs.length cap] w' fun e w''=>e=.returned (.tuple #[.slice (some ⟨b,off,none⟩) zs.length cap,.int .i64 10])∧w''=w') :
  Calls Tryz.prog 79 #[.slice (some ⟨b,off,none⟩) zs.length cap] w fun e w'=>e=.returned (.tuple #[.int .i64 (scan zs).1,.int .i64 (scan zs).2])∧w'=w:=by
 obtain ⟨n,hnn⟩:∃n,n=zs.length:=⟨_,rfl⟩
 obtain ⟨ds,hds⟩:∃ds,ds=zs:=⟨_,rfl⟩
 have HS:Hid (scan zs=res n (sc 10 0 ds)):=by show _=_;rw [hnn,hds];exact hS
 have HLD:Hid (ds.length=n):=by show _=_;rw [hds,hnn]
 have HC:Hid (∀i,i<n→w.cell? ⟨b,off+i,none⟩=some (.int .u8 (ds.getD i 0))):=by show ∀i,_;rw [hnn,hds];exact hcell
 have HB:Hid (Bts ds):=by rw [hds];exact hb
 have hc0:=hcell 0 (by omega)
 rw [Nat.add_zero] at hc0
 rw [← hnn] at h0 hcap hsp ⊢
 clear hnn hds hS hcell hb hc0
 have hne:((n:Int)==0)=false:=by simp;omega
 have HSP:Hid (∀w',w'=w→Calls Tryz.prog 100 #[.slice (some ⟨b,off,none⟩) n cap] w' fun e w''=>e=.returned (.tuple #[.slice (some ⟨b,off,none⟩) n cap,.int .i64 10])∧w''=w'):=hsp
 clear hsp
 go_enter Tryz.func79,Tryz.ntmps79
 go_wp2_with (go_at_call 100;refine (HSP.out _ rfl).mono ?_;rintro e w' ⟨rfl,rfl⟩)
 go_loop [6,20] (fun q i=>∃(k:Nat) (v:Int),k≤n∧i=.int .i64 k∧q=.int .i64 v∧Hid (sc 10 0 ds=sc 10 v (ds.drop k))) (fun _ i=>n-(intOf i).toNat)
 case atStart=>exact ⟨0,0,Nat.zero_le _,rfl,rfl,rfl⟩
 case round =>
  obtain ⟨k,v,hk,rfl,rfl,HR⟩:=hrel
  by_cases hlt:k<n
  ·have hc:=HC.out k hlt
   have hzz:=HB.out k
   obtain ⟨z,hz⟩:∃z,z=ds.getD k 0:=⟨_,rfl⟩
   rw [← hz] at hc hzz
   have HZ:Hid (z=ds.getD k 0):=hz
   have HK:Hid (k<ds.length):=by show _<_;rw [HLD.out];exact hlt
   obtain ⟨hz1,hz2⟩:=hzz
   have hd:=digv_bd z
   clear hz
   by_cases hbig:10≤digv z
   ·have HG:Hid (hexv z<0∨10≤hexv z):=digv_bad hbig (by omega)
    go_wp2_with (go_at_call 101;refine (digit_any _ hz1 hz2 _).mono ?_;rintro e w' ⟨rfl,rfl⟩)
    go_ret2
    exact ⟨fin2 (by rw [HS.out,HR.out,sc_bad HK.out (by rw [← HZ.out];exact HG.out)];rfl),rfl⟩
   ·have HG:Hid (¬hexv z<0∧¬10≤hexv z∧digv z=hexv z):=digv_good hbig (by omega)
    go_wp2_with (go_at_call 101;refine (digit_any _ hz1 hz2 _).mono ?_;rintro e w' ⟨rfl,rfl⟩)
    go_round
    case rel=>exact ⟨k+1,_,by omega,by go_num,rfl,by show _=_;rw [HR.out,sc_good HK.out (by rw [← HZ.out];have:=HG.out.1;omega) (by rw [← HZ.out];have:=HG.out.2.1;omega),← HZ.out,HG.out.2.2]⟩
    case measure=>simp [intOf];omega
  ·have hE:sc 10 0 ds=some v:=by rw [HR.out,sc_end (by rw [HLD.out];omega)]
   have HE:Hid (sc 10 0 ds=some v):=hE
   clear hE
   by_cases h40:40<n
   ·go_wp2
    go_ret2
    exact ⟨fin2 (by rw [HS.out,HE.out];simp only [res];rw [if_pos (by omega)]),rfl⟩
   ·go_wp2
    go_ret2
    exact ⟨fin2 (by rw [HS.out,HE.out];simp only [res];rw [if_neg (by omega)]),rfl⟩
theorem impl_hex2 (b off cap:Nat) (z1:Int) (w:World) (hc0:w.cell? ⟨b,off,none⟩=some (.int .u8 48)) (hc1:w.cell? ⟨b,off+1,none⟩=some (.int .u8 z1)) (hcap:2≤cap) (hm:cap≤9223372036854775807) (hx1:z1=120∨z1=88) :
  Calls Tryz.prog 79 #[.slice (some ⟨b,off,none⟩) 2 cap] w fun e w'=>e=.returned (.tuple #[.int .i64 0,.int .i64 2])∧w'=w:=by
 go_enter Tryz.func79,Tryz.ntmps79
 go_wp2_with (go_at_call 100;refine (split_hex2 _ _ _ _ _ hc0 hc1 hcap hm hx1).mono ?_;rintro e w' ⟨⟨a,c,rfl⟩,rfl⟩)
 go_ret2
 exact ⟨rfl,rfl⟩
theorem impl_nil (ao:Option Addr) (cap:Nat) (w:World) :
  Calls Tryz.prog 79 #[.slice ao 0 cap] w fun e w'=>e=.returned (.tuple #[.int .i64 0,.int .i64 2])∧w'=w:=by
 go_enter Tryz.func79,Tryz.ntmps79
 go_wp2_with (go_at_call 100;refine (split_short _ _ _ _ (by omega)).mono ?_;rintro e w' ⟨rfl,rfl⟩)
 go_ret2
 exact ⟨rfl,rfl⟩
theorem spec_nil (ao:Option Addr) (cap:Nat) (w:World) :
  Calls Tryz.prog 52 #[.slice ao 0 cap] w fun e w'=>e=.returned (.tuple #[.int .i64 0,.int .i64 2])∧w'=w:=by
 go_enter Tryz.func52,Tryz.ntmps52
 go_wp2
 go_ret2
 exact ⟨rfl,rfl⟩
theorem ways (zs:List Int):zs.length=0∨zs.length=1∨(2≤zs.length∧(zs.getD 0 0==48)=false∧hx zs=false)∨(2≤zs.length∧zs.getD 0 0=48∧(zs.getD 1 0==120)=false∧(zs.getD 1 0==88)=false∧hx zs=false) ∨
  (zs.length=2∧zs.getD 0 0=48∧(zs.getD 1 0=120∨zs.getD 1 0=88)∧hx zs=true)∨(2<zs.length∧zs.getD 0 0=48∧(zs.getD 1 0=120∨zs.getD 1 0=88)∧hx zs=true):=by
 obtain ⟨z0,h0⟩:∃z,z=zs.getD 0 0:=⟨_,rfl⟩
 obtain ⟨z1,h1⟩:∃z,z=zs.getD 1 0:=⟨_,rfl⟩
 obtain ⟨n,hn⟩:∃n,n=zs.length:=⟨_,rfl⟩
 simp only [hx,← h0,← h1,← hn]
 by_cases a:n<2
 ·omega
 ·by_cases b:z0=48
  ·subst b
   by_cases c:z1=120∨z1=88
   ·have:(decide (2≤n)&&((48:Int)==48)&&((z1==120) || (z1==88)))=true:=by
     rcases c with c|c <;> subst c <;> simp <;> omega
    by_cases d:n=2
    ·exact .inr (.inr (.inr (.inr (.inl ⟨d,rfl,c,this⟩))))
    ·exact .inr (.inr (.inr (.inr (.inr ⟨by omega,rfl,c,this⟩))))
   ·have e1:(z1==120)=false:=by simp;omega
    have e2:(z1==88)=false:=by simp;omega
    exact .inr (.inr (.inr (.inl ⟨by omega,rfl,e1,e2,by simp [e1,e2]⟩)))
  ·have e0:(z0==48)=false:=by simp;omega
   exact .inr (.inr (.inl ⟨by omega,e0,by simp [e0]⟩))
theorem scan_any (b off cap:Nat) (zs:List Int) (hb:Bts zs) (w:World) (hr:Rd w (some ⟨b,off,none⟩) zs) (hcap:zs.length≤cap) (hm:cap≤9223372036854775807) (hnb:zs.length≤140737488355328:=by omega) :
  (Calls Tryz.prog 52 #[.slice (some ⟨b,off,none⟩) zs.length cap] w fun e w'=>e=.returned (.tuple #[.int .i64 (scan zs).1,.int .i64 (scan zs).2])∧w'=w) ∧
  (Calls Tryz.prog 79 #[.slice (some ⟨b,off,none⟩) zs.length cap] w fun e w'=>e=.returned (.tuple #[.int .i64 (scan zs).1,.int .i64 (scan zs).2])∧w'=w):=by
 by_cases hz:zs.length=0
 ·rw [scan_nil hz,hz]
  exact ⟨spec_nil _ _ _,impl_nil _ _ _⟩
 obtain ⟨b',off',e,hbw,hcell⟩:=hr.at (by omega)
 simp only [Option.some.injEq,Addr.mk.injEq,and_true] at e
 obtain ⟨rfl,rfl⟩:=e
 have hc0:=hcell 0 (by omega)
 rw [Nat.add_zero] at hc0
 rcases ways zs with h|h|⟨h,h0,hX⟩|⟨h,h0,h1,h2,hX⟩|⟨h,h0,h1,hX⟩|⟨h,h0,h1,hX⟩
 ·omega
 ·have hX:hx zs=false:=by simp [hx,h]
  have hS:=scan_dec hX (by omega)
  exact ⟨spec_dec _ _ _ zs hb w hcell hcap hm (by omega) hS (.inl (by omega)),impl_dec _ _ _ zs hb w hcell hcap hm (by omega) hS fun w' _=>split_short _ _ _ _ (by omega)⟩
 ·have hS:=scan_dec hX (by omega)
  have hne:¬zs.getD 0 0=48:=by simpa using h0
  refine ⟨spec_dec _ _ _ zs hb w hcell hcap hm (by omega) hS ?_,impl_dec _ _ _ zs hb w hcell hcap hm (by omega) hS fun w' e=>split_not0 _ _ _ _ _ _ (e ▸ hc0) (by omega) h h0⟩
  by_cases h2:zs.length=2
  ·exact .inl (by omega)
  ·exact .inr (.inl ⟨by omega,hne⟩)
 ·have hS:=scan_dec hX (by omega)
  have hc1:=hcell 1 (by omega)
  rw [h0] at hc0
  have hn1:¬zs.getD 1 0=120:=by simpa using h1
  have hn2:¬zs.getD 1 0=88:=by simpa using h2
  refine ⟨spec_dec _ _ _ zs hb w hcell hcap hm (by omega) hS ?_,impl_dec _ _ _ zs hb w hcell hcap hm (by omega) hS fun w' e=>split_not1 _ _ _ _ _ _ (e ▸ hc0) (e ▸ hc1) (by omega) h h1 h2⟩
  by_cases h3:zs.length=2
  ·exact .inl (by omega)
  ·exact .inr (.inr ⟨by omega,h0,hn1,hn2⟩)
 ·have hc1:=hcell 1 (by omega)
  have hS:=scan_hex2 hX h
  have hS':scan zs=res zs.length (sc 10 0 zs):=by rw [hS,h,scan_hex2_dec hX h]
  rw [h0] at hc0
  refine ⟨spec_dec _ _ _ zs hb w hcell hcap hm (by omega) hS' (.inl (by omega)),?_⟩
  rw [hS,h]
  exact impl_hex2 _ _ _ _ _ hc0 hc1 (by omega) hm h1
 ·exact ⟨spec_hex _ _ _ zs hb w hcell hcap hm h h0 h1,impl_hex _ _ _ zs hb w hcell hcap hm h h0 h1⟩
end scn
end Go.Proofs.YtkmiagkehcflnaaGreatDoor
