import Derived.Test.YtkmiagkehcflnaaGreatDoorMLexToks
import Derived.Test.YtkmiagkehcflnaaGreatDoorMIpPure
import Derived.Test.YtkmiagkehcflnaaGreatDoorMPsUna
import Derived.Test.YtkmiagkehcflnaaGreatDoorMPsBlk
import Derived.Test.YtkmiagkehcflnaaGreatDoorMPsBin
import Derived.Test.YtkmiagkehcflnaaGreatDoorMPsSim
import Derived.Test.YtkmiagkehcflnaaGreatDoorMPsSta
import Derived.Test.YtkmiagkehcflnaaGreatDoorMPsOth
import Derived.Test.YtkmiagkehcflnaaGreatDoorMPsTab
set_option maxRecDepth 100000
set_option maxHeartbeats 8000000
namespace Go.Proofs.YtkmiagkehcflnaaGreatDoor
namespace ps
open Go.RowKit bts nod lex tk
theorem al_zero (E:En):Al E 0 where
 bin:=fun n s _ _ h=>by have:=need_pos E.T 0 s (by decide) (by decide);omega
 una:=fun s h=>by have:=need_pos E.T 2 s (by decide) (by decide);omega
 sim:=fun s h=>by have:=need_pos E.T 3 s (by decide) (by decide);omega
 suf:=fun s h=>by have:=need_pos E.T 4 s (by decide) (by decide);omega
 exs:=fun s h=>by have:=need_pos E.T 6 s (by decide) (by decide);omega
 fun_:=fun s h=>by have:=need_pos E.T 8 s (by decide) (by decide);omega
 tab:=fun s h=>by have:=need_pos E.T 9 s (by decide) (by decide);omega
 blk:=fun s h=>by have:=need_pos E.T 11 s (by decide) (by decide);omega
 sta:=fun s h=>by have:=need_pos E.T 13 s (by decide) (by decide);omega
 iff_:=fun s h=>by have:=need_pos E.T 14 s (by decide) (by decide);omega
 oth:=fun s h=>by have:=need_pos E.T 16 s (by decide) (by decide);omega
def TabC (E:En):Prop:=∀(f:Nat),(∀m,m≤f→Al E m)→∀(s:Ps),need E.T 9 s≤f+1→∃l c s',Rs E (f+1) 9 0 s [l] c s'∧Nods E 123 ag1 s l s'
theorem al_next {E:En} (ok:E.ok) (TB:TabC E) {f:Nat} (AA:∀m,m≤f→Al E m):Al E (f+1) where
 bin:=fun n s h1 h7 h=>bin_next ok AA n s h1 h7 h
 una:=fun s h=>una_next ok (AA f (Nat.le_refl _)) s h
 sim:=fun s h=>sim_next ok (AA f (Nat.le_refl _)) s h
 suf:=fun s h=>suf_next ok AA s h
 exs:=fun s h=>exs_next ok AA s h
 fun_:=fun s h=>fun_next ok (AA f (Nat.le_refl _)) s h
 tab:=fun s h=>TB f AA s h
 blk:=fun s h=>blk_next ok AA s h
 sta:=fun s h=>sta_next ok (AA f (Nat.le_refl _)) s h
 iff_:=fun s h=>iff_next ok AA s h
 oth:=fun s h=>oth_next ok AA s h
theorem al_all {E:En} (ok:E.ok) (TB:TabC E):∀(f m:Nat),m≤f→Al E m
 |0,m,h=>by
  obtain rfl:m=0:=by omega
  exact al_zero E
 |f+1,m,h=>by
  by_cases hm:m≤f
  ·exact al_all ok TB f m hm
  ·obtain rfl:m=f+1:=by omega
   exact al_next ok TB (fun k hk=>al_all ok TB f k hk)
theorem al_every {E:En} (ok:E.ok) (f:Nat):Al E f:=al_all ok (fun _ AA s h=>tab_next ok AA s h) f f (Nat.le_refl _)
theorem toks_fit {zs:List Int}:∀(S:List (Int×Nat×Nat)) (e:Nat),Toks zs e S→e≤zs.length→S.length+e≤zs.length∧∀k,k<S.length→1≤(S.getD k (0,0,0)).2.2∧(S.getD k (0,0,0)).2.1+(S.getD k (0,0,0)).2.2≤zs.length
 |[],e,_,he=>⟨by simpa using he,fun k hk=>absurd hk (by simp)⟩
 |(kd,a,n)::r,e,h,he=>by
  obtain ⟨h1,h2,h3,_,_,_,h7⟩:=h
  obtain ⟨i1,i2⟩:=toks_fit r (a+n) h7 h3
  refine ⟨by simp;omega,fun k hk=>?_⟩
  cases k with
  |zero=>exact ⟨h2,h3⟩
  |succ k=>exact i2 k (by simpa using hk)
theorem lexR_short {zs:List Int} (h:(lexR zs).2.1=0):zs.length≤6000:=by
 unfold lexR at h
 split at h
 ·simp at h
 ·omega
theorem sr_lex {w':World} {sv tv:Option Addr} {sc tc base:Nat} {zs:List Int} (hb:Bts zs) (hr:Rd w' sv zs) (hz:0<zs.length→∃b,sv=some ⟨b,0,none⟩) (hc:zs.length≤sc) (hm:sc≤9223372036854775807) (h0:(lexR zs).2.1=0) (ho:w'.ownsRow base 68 3 (.slice tv (lexR zs).1.length tc) (lexR zs).1.length (tcells (lexR zs).1)):Sr w' sv sc tv tc zs (lexR zs).1:=by
 have hs:=lexR_short h0
 obtain ⟨h1,h2⟩:=toks_fit (lexR zs).1 0 (lexR_toks hb) (Nat.zero_le _)
 exact ⟨hb,hr,hz,RdT.own ho rfl,h2,hs,by omega,hc,hm⟩
theorem pp_new {E:En} (W:World) (h:W=E.w0):E.pp (W.alloc (.cells #[.slice E.sv E.zs.length E.sc,.slice E.tv E.T.length E.tc,.int .i64 0,.int .i64 (-1),.bool false,.bool false] 37)) W.heap.size ⟨0,-1,false,false⟩:=by
 subst h
 exact ⟨bel_alloc _ _,Nat.le_refl _,tk.Lone.of (heap_alloc_new _ _) rfl,Nat.zero_le _⟩
theorem blk_all {E:En} (ok:E.ok):∃l c s',Rs E (20*E.T.length+40) 11 0 ⟨0,-1,false,false⟩ [l] c s'∧Nods E 13 ag1 ⟨0,-1,false,false⟩ l s' :=
 (al_every ok (20*E.T.length+40)).blk _ (by
  have nn:=need_le E.T 11 ⟨0,-1,false,false⟩ (by decide)
  have:cOk 11=11:=rfl
  dsimp only at nn
  omega)
def parseS (zs:List Int) (vld:List Nd→Bool):List Nd×Int×Int:=if (lexR zs).2.1=0 then parseT zs (lexR zs).1 vld else ([],(lexR zs).2.1,(lexR zs).2.2)
def ParsePost (w:World) (r:List Nd×Int×Int) (e:Ending) (w':World):Prop:=∃a c,e=.returned (.tuple #[.slice a r.1.length c,.int .i64 r.2.1,.int .i64 r.2.2])∧FN (tk.lt w.heap.size) w' (.slice a r.1.length c) r.1∧Below w.heap.size w w'
theorem post_nil {w w':World} {x y:Int} (hB:Below w.heap.size w w'):ParsePost w ([],x,y) (.returned (.tuple #[.slice none 0 0,.int .i64 x,.int .i64 y])) w':=⟨none,0,rfl,⟨none,0,rfl,Nat.le_refl _,fun i hi=>absurd hi (by simp)⟩,hB⟩
theorem bel_next {A W w':World} (h:Below A.heap.size A W) (hb:Below W.heap.size W w'):Below A.heap.size A w':=h.trans (hb.mono h.size)
theorem specParse_any {w:World} {gs sc:Nat} {zs:List Int} (hb:Bts zs) (hr:Rd w (some ⟨gs,0,none⟩) zs) (hc:zs.length≤sc) (hm:sc≤9223372036854775807) (vld:List Nd→Bool) (ok:List Nd→Prop)
  (hok:(lexR zs).2.1=0→(pz zs (lexR zs).1 (20*(lexR zs).1.length+40) 11 0 [] ⟨0,-1,false,false⟩).2.2.bad<0→¬(pz zs (lexR zs).1 (20*(lexR zs).1.length+40) 11 0 [] ⟨0,-1,false,false⟩).2.2.at_<(lexR zs).1.length→ok ((pz zs (lexR zs).1 (20*(lexR zs).1.length+40) 11 0 [] ⟨0,-1,false,false⟩).1.getD 0 []))
  (VT:∀(W:World) (B:Nat→Bool) (a:Option Addr) (c:Nat) (l:List Nd),FN B W (.slice a l.length c) l→l.length≤200000→ok l→Calls Tryz.prog 15 #[.slice a l.length c] W fun e w'=>e=.returned (.bool (vld l))∧Below W.heap.size W w') :
  Calls Tryz.prog 4 #[.slice (some ⟨gs,0,none⟩) zs.length sc] w (ParsePost w (parseS zs vld)):=by
 obtain ⟨L,hL⟩:∃L,lexR zs=L:=⟨_,rfl⟩
 obtain ⟨T,cd,ca⟩:=L
 have LX:Hid (Calls Tryz.prog 12 #[.slice (some ⟨gs,0,none⟩) zs.length sc] w fun e w'=>Below w.heap.size w w'∧∃ao c,e=.returned (.tuple #[.slice ao T.length c,.int .i64 cd,.int .i64 ca])∧w'.ownsRow w.heap.size 68 3 (.slice ao T.length c) T.length (tcells T)):=by
  have:=specLex_any gs sc zs w hb hr hm hc
  unfold LexPost at this
  rw [hL] at this
  exact this
 have SR:Hid (cd=0→∀(w1:World) (tv:Option Addr) (tc:Nat),Below w.heap.size w w1→w1.ownsRow w.heap.size 68 3 (.slice tv T.length tc) T.length (tcells T)→Sr w1 (some ⟨gs,0,none⟩) sc tv tc zs T):=fun h0 w1 tv tc h1 h2=>by
  have:=sr_lex (w':=w1) (tv:=tv) (tc:=tc) (base:=w.heap.size) hb (hr.below h1) (fun _=>⟨gs,rfl⟩) hc hm (by rw [hL];exact h0) (by rw [hL];exact h2)
  rw [hL] at this
  exact this
 have eS:parseS zs vld=if cd=0 then parseT zs T vld else ([],cd,ca):=by unfold parseS;rw [hL]
 rw [eS]
 have HVT:Hid _:=VT
 rw [hL] at hok
 dsimp only at hok
 clear hL hb hr VT eS
 by_cases h0:cd=0
 ·subst h0
  rw [if_pos rfl]
  have SR2:Hid _:=SR.out rfl
  clear SR
  obtain ⟨x,hx⟩:∃x,pz zs T (20*T.length+40) 11 0 [] ⟨0,-1,false,false⟩=x:=⟨_,rfl⟩
  obtain ⟨ks,cx,s2⟩:=x
  have HX:Hid (pz zs T (20*T.length+40) 11 0 [] ⟨0,-1,false,false⟩=(ks,cx,s2)):=hx
  have HOK:Hid (s2.bad<0→¬s2.at_<T.length→ok (ks.getD 0 [])):=by have:=hok rfl;rw [hx] at this;exact this
  clear hok
  by_cases hbad:0≤s2.bad
  ·have eP:parseT zs T vld=([],2,s2.bad):=by unfold parseT;rw [hx];dsimp only;rw [if_neg (show ¬(s2.bad<0∧s2.at_<T.length) by omega),if_pos hbad]
   rw [eP]
   clear eP hx
   have i1:¬s2.bad<0:=by omega
   go_enter Tryz.func4,Tryz.ntmps4
   go_wp2_with (first
    |(go_at_call 13;have OK:En.ok ⟨w1,some ⟨gs,0,none⟩,sc,tv,tc,zs,T⟩:=SR2.out w1 tv tc B1.out O1.out;obtain ⟨l,c9,s3,R,D⟩:=blk_all OK;have e9:=R.1;rw [show pz (En.zs ⟨w1,some ⟨gs,0,none⟩,sc,tv,tc,zs,T⟩) (En.T ⟨w1,some ⟨gs,0,none⟩,sc,tv,tc,zs,T⟩) (20*(En.T ⟨w1,some ⟨gs,0,none⟩,sc,tv,tc,zs,T⟩).length+40) 11 0 [] ⟨0,-1,false,false⟩=(ks,cx,s2) from HX.out] at e9;injection e9 with e9 e8;injection e8 with e8 e7;subst e9 e7;refine ((Cur.start OK (pp_new w1 rfl)).call D).mono ?_;rintro e w2 ⟨a2,c2,rfl,hX,hC,hF⟩;have C2:Hid (Cur ⟨w1,some ⟨gs,0,none⟩,sc,tv,tc,zs,T⟩ (w1.alloc (.cells #[.slice (some ⟨gs,0,none⟩) zs.length sc,.slice tv T.length tc,.int .i64 0,.int .i64 (-1),.bool false,.bool false] 37)) w1.heap.size no w2 s2):=hC;have X2:Hid (FN (tk.lt w.heap.size) w2 (.slice a2 l.length c2) l):=hX.less (fun b h=>by have:=B1.out.size;simp [hd,no,tk.lt] at h ⊢;omega);have HR:Hid (l.length≤200000):=(by have:=tot_le R hC;rw [tot_single] at this;exact this);have d2:w2.cell? ⟨w1.heap.size,2,none⟩=some (.int .i64 (s2.at_:Int)):=C2.out.c2;have d3:w2.cell? ⟨w1.heap.size,3,none⟩=some (.int .i64 s2.bad):=C2.out.c3;have d4:w2.cell? ⟨w1.heap.size,4,none⟩=some (.bool s2.long):=C2.out.c4;have B2:Hid (Below w.heap.size w w2):=(B1.out.trans ((bel_alloc _ _).mono B1.out.size)).trans (hF.below.mono B1.out.size);clear hC hX hF R D OK e8)
    |(go_at_call 12;refine Calls.mono LX.out ?_;rintro e w1 ⟨hB,tv,tc,rfl,hO⟩;have B1:Hid (Below w.heap.size w w1):=hB;have O1:Hid (w1.ownsRow w.heap.size 68 3 (.slice tv T.length tc) T.length (tcells T)):=hO;clear hB hO))
   go_quiet (fail)
   go_wp2
   go_returns
   exact post_nil (tk.bel_drewN B2.out _)
  ·have i1:s2.bad<0:=by omega
   by_cases hat:s2.at_<T.length
   ·have hwf:=(wrong_f zs T s2).2
    have eP:parseT zs T vld=([],2,(wrong zs T s2).bad):=by unfold parseT;rw [hx];dsimp only;rw [if_pos (show s2.bad<0∧s2.at_<T.length from ⟨i1,hat⟩),if_pos hwf]
    rw [eP]
    clear eP hx
    have i2:(s2.at_:Int)<(T.length:Int):=by omega
    go_enter Tryz.func4,Tryz.ntmps4
    go_wp2_with (first
     |(go_at_call 14;refine (C2.out.wrong).mono ?_;rintro e w3 ⟨⟨v3,rfl⟩,hC,hF⟩;have e3:w3.cell? ⟨w1.heap.size,3,none⟩=some (.int .i64 (wrong zs T s2).bad):=hC.c3;have B3:Hid (Below w.heap.size w w3):=B2.out.trans (hF.below.mono B1.out.size);clear hC hF)
     |(go_at_call 13;have OK:En.ok ⟨w1,some ⟨gs,0,none⟩,sc,tv,tc,zs,T⟩:=SR2.out w1 tv tc B1.out O1.out;obtain ⟨l,c9,s3,R,D⟩:=blk_all OK;have e9:=R.1;rw [show pz (En.zs ⟨w1,some ⟨gs,0,none⟩,sc,tv,tc,zs,T⟩) (En.T ⟨w1,some ⟨gs,0,none⟩,sc,tv,tc,zs,T⟩) (20*(En.T ⟨w1,some ⟨gs,0,none⟩,sc,tv,tc,zs,T⟩).length+40) 11 0 [] ⟨0,-1,false,false⟩=(ks,cx,s2) from HX.out] at e9;injection e9 with e9 e8;injection e8 with e8 e7;subst e9 e7;refine ((Cur.start OK (pp_new w1 rfl)).call D).mono ?_;rintro e w2 ⟨a2,c2,rfl,hX,hC,hF⟩;have C2:Hid (Cur ⟨w1,some ⟨gs,0,none⟩,sc,tv,tc,zs,T⟩ (w1.alloc (.cells #[.slice (some ⟨gs,0,none⟩) zs.length sc,.slice tv T.length tc,.int .i64 0,.int .i64 (-1),.bool false,.bool false] 37)) w1.heap.size no w2 s2):=hC;have X2:Hid (FN (tk.lt w.heap.size) w2 (.slice a2 l.length c2) l):=hX.less (fun b h=>by have:=B1.out.size;simp [hd,no,tk.lt] at h ⊢;omega);have HR:Hid (l.length≤200000):=(by have:=tot_le R hC;rw [tot_single] at this;exact this);have d2:w2.cell? ⟨w1.heap.size,2,none⟩=some (.int .i64 (s2.at_:Int)):=C2.out.c2;have d3:w2.cell? ⟨w1.heap.size,3,none⟩=some (.int .i64 s2.bad):=C2.out.c3;have d4:w2.cell? ⟨w1.heap.size,4,none⟩=some (.bool s2.long):=C2.out.c4;have B2:Hid (Below w.heap.size w w2):=(B1.out.trans ((bel_alloc _ _).mono B1.out.size)).trans (hF.below.mono B1.out.size);clear hC hX hF R D OK e8)
     |(go_at_call 12;refine Calls.mono LX.out ?_;rintro e w1 ⟨hB,tv,tc,rfl,hO⟩;have B1:Hid (Below w.heap.size w w1):=hB;have O1:Hid (w1.ownsRow w.heap.size 68 3 (.slice tv T.length tc) T.length (tcells T)):=hO;clear hB hO))
    go_quiet (fail)
    go_wp2
    go_returns
    exact post_nil (tk.bel_drewN B3.out _)
   ·have i2:¬(s2.at_:Int)<(T.length:Int):=by omega
    have eP:parseT zs T vld=if s2.long || !vld (ks.getD 0 []) then ([],4,0) else (ks.getD 0 [],0,0):=by unfold parseT;rw [hx];dsimp only;rw [if_neg (show ¬(s2.bad<0∧s2.at_<T.length) by omega),if_neg hbad]
    rw [eP]
    clear eP hx
    have OKH:Hid (ok (ks.getD 0 [])):=HOK.out i1 hat
    clear HOK
    have hl:s2.long=true∨s2.long=false:=by cases s2.long <;> simp
    rcases hl with hl|hl
    ·rw [hl,Bool.true_or,if_pos rfl]
     go_enter Tryz.func4,Tryz.ntmps4
     go_wp2_with (first
      |(go_at_call 13;have OK:En.ok ⟨w1,some ⟨gs,0,none⟩,sc,tv,tc,zs,T⟩:=SR2.out w1 tv tc B1.out O1.out;obtain ⟨l,c9,s3,R,D⟩:=blk_all OK;have e9:=R.1;rw [show pz (En.zs ⟨w1,some ⟨gs,0,none⟩,sc,tv,tc,zs,T⟩) (En.T ⟨w1,some ⟨gs,0,none⟩,sc,tv,tc,zs,T⟩) (20*(En.T ⟨w1,some ⟨gs,0,none⟩,sc,tv,tc,zs,T⟩).length+40) 11 0 [] ⟨0,-1,false,false⟩=(ks,cx,s2) from HX.out] at e9;injection e9 with e9 e8;injection e8 with e8 e7;subst e9 e7;refine ((Cur.start OK (pp_new w1 rfl)).call D).mono ?_;rintro e w2 ⟨a2,c2,rfl,hX,hC,hF⟩;have C2:Hid (Cur ⟨w1,some ⟨gs,0,none⟩,sc,tv,tc,zs,T⟩ (w1.alloc (.cells #[.slice (some ⟨gs,0,none⟩) zs.length sc,.slice tv T.length tc,.int .i64 0,.int .i64 (-1),.bool false,.bool false] 37)) w1.heap.size no w2 s2):=hC;have X2:Hid (FN (tk.lt w.heap.size) w2 (.slice a2 l.length c2) l):=hX.less (fun b h=>by have:=B1.out.size;simp [hd,no,tk.lt] at h ⊢;omega);have HR:Hid (l.length≤200000):=(by have:=tot_le R hC;rw [tot_single] at this;exact this);have d2:w2.cell? ⟨w1.heap.size,2,none⟩=some (.int .i64 (s2.at_:Int)):=C2.out.c2;have d3:w2.cell? ⟨w1.heap.size,3,none⟩=some (.int .i64 s2.bad):=C2.out.c3;have d4:w2.cell? ⟨w1.heap.size,4,none⟩=some (.bool s2.long):=C2.out.c4;rw [hl] at d4;have B2:Hid (Below w.heap.size w w2):=(B1.out.trans ((bel_alloc _ _).mono B1.out.size)).trans (hF.below.mono B1.out.size);clear hC hX hF R D OK e8)
      |(go_at_call 12;refine Calls.mono LX.out ?_;rintro e w1 ⟨hB,tv,tc,rfl,hO⟩;have B1:Hid (Below w.heap.size w w1):=hB;have O1:Hid (w1.ownsRow w.heap.size 68 3 (.slice tv T.length tc) T.length (tcells T)):=hO;clear hB hO))
     go_returns
     exact post_nil B2.out
    ·rw [hl,Bool.false_or]
     cases hv:vld (ks.getD 0 [])
     ·rw [show (!false)=true from rfl,if_pos rfl]
      go_enter Tryz.func4,Tryz.ntmps4
      go_wp2_with (first
       |(go_at_call 15;refine Calls.mono (HVT.out _ _ _ _ _ X2.out HR.out OKH.out) ?_;rw [show vld l=false from hv];rintro e w3 ⟨rfl,hb⟩;have B3:Hid (Below w.heap.size w w3):=bel_next B2.out hb;have X3:Hid (FN (tk.lt w.heap.size) w3 (.slice a2 l.length c2) l):=X2.out.up (up_below hb);clear hb)
       |(go_at_call 13;have OK:En.ok ⟨w1,some ⟨gs,0,none⟩,sc,tv,tc,zs,T⟩:=SR2.out w1 tv tc B1.out O1.out;obtain ⟨l,c9,s3,R,D⟩:=blk_all OK;have e9:=R.1;rw [show pz (En.zs ⟨w1,some ⟨gs,0,none⟩,sc,tv,tc,zs,T⟩) (En.T ⟨w1,some ⟨gs,0,none⟩,sc,tv,tc,zs,T⟩) (20*(En.T ⟨w1,some ⟨gs,0,none⟩,sc,tv,tc,zs,T⟩).length+40) 11 0 [] ⟨0,-1,false,false⟩=(ks,cx,s2) from HX.out] at e9;injection e9 with e9 e8;injection e8 with e8 e7;subst e9 e7;refine ((Cur.start OK (pp_new w1 rfl)).call D).mono ?_;rintro e w2 ⟨a2,c2,rfl,hX,hC,hF⟩;have C2:Hid (Cur ⟨w1,some ⟨gs,0,none⟩,sc,tv,tc,zs,T⟩ (w1.alloc (.cells #[.slice (some ⟨gs,0,none⟩) zs.length sc,.slice tv T.length tc,.int .i64 0,.int .i64 (-1),.bool false,.bool false] 37)) w1.heap.size no w2 s2):=hC;have X2:Hid (FN (tk.lt w.heap.size) w2 (.slice a2 l.length c2) l):=hX.less (fun b h=>by have:=B1.out.size;simp [hd,no,tk.lt] at h ⊢;omega);have HR:Hid (l.length≤200000):=(by have:=tot_le R hC;rw [tot_single] at this;exact this);have d2:w2.cell? ⟨w1.heap.size,2,none⟩=some (.int .i64 (s2.at_:Int)):=C2.out.c2;have d3:w2.cell? ⟨w1.heap.size,3,none⟩=some (.int .i64 s2.bad):=C2.out.c3;have d4:w2.cell? ⟨w1.heap.size,4,none⟩=some (.bool s2.long):=C2.out.c4;rw [hl] at d4;have B2:Hid (Below w.heap.size w w2):=(B1.out.trans ((bel_alloc _ _).mono B1.out.size)).trans (hF.below.mono B1.out.size);clear hC hX hF R D OK e8)
       |(go_at_call 12;refine Calls.mono LX.out ?_;rintro e w1 ⟨hB,tv,tc,rfl,hO⟩;have B1:Hid (Below w.heap.size w w1):=hB;have O1:Hid (w1.ownsRow w.heap.size 68 3 (.slice tv T.length tc) T.length (tcells T)):=hO;clear hB hO))
      go_returns
      exact post_nil B3.out
     ·rw [if_neg (by decide)]
      go_enter Tryz.func4,Tryz.ntmps4
      go_wp2_with (first
       |(go_at_call 15;refine Calls.mono (HVT.out _ _ _ _ _ X2.out HR.out OKH.out) ?_;rw [show vld l=true from hv];rintro e w3 ⟨rfl,hb⟩;have B3:Hid (Below w.heap.size w w3):=bel_next B2.out hb;have X3:Hid (FN (tk.lt w.heap.size) w3 (.slice a2 l.length c2) l):=X2.out.up (up_below hb);clear hb)
       |(go_at_call 13;have OK:En.ok ⟨w1,some ⟨gs,0,none⟩,sc,tv,tc,zs,T⟩:=SR2.out w1 tv tc B1.out O1.out;obtain ⟨l,c9,s3,R,D⟩:=blk_all OK;have e9:=R.1;rw [show pz (En.zs ⟨w1,some ⟨gs,0,none⟩,sc,tv,tc,zs,T⟩) (En.T ⟨w1,some ⟨gs,0,none⟩,sc,tv,tc,zs,T⟩) (20*(En.T ⟨w1,some ⟨gs,0,none⟩,sc,tv,tc,zs,T⟩).length+40) 11 0 [] ⟨0,-1,false,false⟩=(ks,cx,s2) from HX.out] at e9;injection e9 with e9 e8;injection e8 with e8 e7;subst e9 e7;refine ((Cur.start OK (pp_new w1 rfl)).call D).mono ?_;rintro e w2 ⟨a2,c2,rfl,hX,hC,hF⟩;have C2:Hid (Cur ⟨w1,some ⟨gs,0,none⟩,sc,tv,tc,zs,T⟩ (w1.alloc (.cells #[.slice (some ⟨gs,0,none⟩) zs.length sc,.slice tv T.length tc,.int .i64 0,.int .i64 (-1),.bool false,.bool false] 37)) w1.heap.size no w2 s2):=hC;have X2:Hid (FN (tk.lt w.heap.size) w2 (.slice a2 l.length c2) l):=hX.less (fun b h=>by have:=B1.out.size;simp [hd,no,tk.lt] at h ⊢;omega);have HR:Hid (l.length≤200000):=(by have:=tot_le R hC;rw [tot_single] at this;exact this);have d2:w2.cell? ⟨w1.heap.size,2,none⟩=some (.int .i64 (s2.at_:Int)):=C2.out.c2;have d3:w2.cell? ⟨w1.heap.size,3,none⟩=some (.int .i64 s2.bad):=C2.out.c3;have d4:w2.cell? ⟨w1.heap.size,4,none⟩=some (.bool s2.long):=C2.out.c4;rw [hl] at d4;have B2:Hid (Below w.heap.size w w2):=(B1.out.trans ((bel_alloc _ _).mono B1.out.size)).trans (hF.below.mono B1.out.size);clear hC hX hF R D OK e8)
       |(go_at_call 12;refine Calls.mono LX.out ?_;rintro e w1 ⟨hB,tv,tc,rfl,hO⟩;have B1:Hid (Below w.heap.size w w1):=hB;have O1:Hid (w1.ownsRow w.heap.size 68 3 (.slice tv T.length tc) T.length (tcells T)):=hO;clear hB hO))
      go_returns
      exact ⟨a2,c2,rfl,X3.out,B3.out⟩
 ·rw [if_neg h0]
  have e0:(cd==0)=false:=by simp;exact h0
  go_enter Tryz.func4,Tryz.ntmps4
  go_wp2_with (go_at_call 12;refine Calls.mono LX.out ?_;rintro e w1 ⟨hB,tv,tc,rfl,hO⟩;have B1:Hid (Below w.heap.size w w1):=hB;clear hB hO)
  go_returns
  exact post_nil B1.out
end ps
end Go.Proofs.YtkmiagkehcflnaaGreatDoor
