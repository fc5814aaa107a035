import Derived.Deep.RegionHeld3
import Derived.Test.YtkmiagkehcflnaaGreatDoorMPsLists
import Derived.Test.YtkmiagkehcflnaaGreatDoorMLexTok
import Derived.Test.YtkmiagkehcflnaaGreatDoorMLexToks
set_option maxRecDepth 100000
set_option maxHeartbeats 8000000
namespace Go.Proofs.YtkmiagkehcflnaaGreatDoor
namespace ps
open Go.RowKit bts nod lex tk
structure Sr (w0:World) (sv:Option Addr) (sc:Nat) (tv:Option Addr) (tc:Nat) (zs:List Int) (T:List (Int×Nat×Nat)):Prop where
 bts:Bts zs
 src:Rd w0 sv zs
 zero:0<zs.length→∃b,sv=some ⟨b,0,none⟩
 toks:RdT w0 tv T
 fits:∀k,k<T.length→1≤(T.getD k (0,0,0)).2.2∧(T.getD k (0,0,0)).2.1+(T.getD k (0,0,0)).2.2≤zs.length
 size:zs.length≤6000
 many:T.length≤6000
 room:zs.length≤sc
 most:sc≤9223372036854775807
def Pp (w0:World) (sv:Option Addr) (sc:Nat) (tv:Option Addr) (tc:Nat) (zs:List Int) (T:List (Int×Nat×Nat)) (w:World) (g:Nat) (s:Ps):Prop :=
 Below w0.heap.size w0 w∧w0.heap.size≤g∧tk.Lone 37 6 w g [.slice sv zs.length sc,.slice tv T.length tc,.int .i64 (s.at_:Int),.int .i64 s.bad,.bool s.long,.bool s.loop]∧s.at_≤T.length
section
variable {w0 w w':World} {sv tv:Option Addr} {sc tc g:Nat} {zs:List Int} {T:List (Int×Nat×Nat)} {s:Ps}
theorem Pp.lt (h:Pp w0 sv sc tv tc zs T w g s):g<w.heap.size:=heap_lt h.2.2.1.back
theorem Pp.keep (h:Pp w0 sv sc tv tc zs T w g s) (hb:Below w.heap.size w w'):Pp w0 sv sc tv tc zs T w' g s :=
 ⟨h.1.trans (hb.mono h.1.size),h.2.1,h.2.2.1.below hb h.lt,h.2.2.2⟩
theorem Pp.drew (h:Pp w0 sv sc tv tc zs T w g s) (m:Nat):Pp w0 sv sc tv tc zs T (w.drewN m) g s :=
 ⟨tk.bel_drewN h.1 m,h.2.1,drew_lone h.2.2.1 m,h.2.2.2⟩
end
theorem l3kind_any {w0 w:World} {sv tv:Option Addr} {sc tc g:Nat} {zs:List Int} {T:List (Int×Nat×Nat)} {s:Ps} (hS:Sr w0 sv sc tv tc zs T) (h:Pp w0 sv sc tv tc zs T w g s) :
  Calls Tryz.prog 56 #[.pointer (some ⟨g,0,none⟩)] w fun e w'=>e=.returned (.int .i64 (kindP T s))∧∃m,w'=w.drewN m:=by
 obtain ⟨h1,h2,hL,hi⟩:=h
 have c1:w.cell? ⟨g,1,none⟩=some (.slice tv T.length tc):=hL.at (j:=1) (by omega)
 have c2:w.cell? ⟨g,2,none⟩=some (.int .i64 (s.at_:Int)):=hL.at (j:=2) (by omega)
 have c3:w.cell? ⟨g,3,none⟩=some (.int .i64 s.bad):=hL.at (j:=3) (by omega)
 have HM:=hS.many
 unfold kindP
 rcases over_cases T s with ⟨hb,ho⟩|⟨hb,he,ho⟩|⟨hb,hlt,ho⟩
 ·rw [ho,if_pos rfl]
  have d:decide (0≤s.bad)=true:=decide_eq_true hb
  clear h1 h2 hL hS
  go_enter Tryz.func56,Tryz.ntmps56
  go_wp2_with fail
  go_quiet (fail)
  go_wp2
  go_returns
  exact ⟨rfl,_,rfl⟩
 ·rw [ho,if_pos rfl]
  have d:decide (0≤s.bad)=false:=decide_eq_false hb
  have d2:decide ((T.length:Int)≤(s.at_:Int))=true:=decide_eq_true (by omega)
  clear h1 h2 hL hS
  go_enter Tryz.func56,Tryz.ntmps56
  go_wp2_with fail
  go_quiet (fail)
  go_wp2
  go_returns
  exact ⟨rfl,_,rfl⟩
 ·rw [ho,if_neg (by decide)]
  have d:decide (0≤s.bad)=false:=decide_eq_false hb
  have d2:decide ((T.length:Int)≤(s.at_:Int))=false:=decide_eq_false (by omega)
  have d3:(s.at_:Int)<(T.length:Int):=by omega
  obtain ⟨gT,rfl,t0,t1,t2⟩:=hS.toks.below h1 s.at_ hlt
  generalize (T.getD s.at_ (0,0,0)).1=kd at t0
  clear h1 h2 hL hS t1 t2
  go_enter Tryz.func56,Tryz.ntmps56
  go_wp2_with fail
  go_quiet (fail)
  rename Nat=>n1
  go_wp2_with fail
  go_quiet (fail)
  go_wp2
  go_returns
  exact ⟨rfl,n1+nq,by simp⟩
theorem l3now_any {w0 w:World} {sv tv:Option Addr} {sc tc g:Nat} {zs:List Int} {T:List (Int×Nat×Nat)} {s:Ps} (hS:Sr w0 sv sc tv tc zs T) (h:Pp w0 sv sc tv tc zs T w g s) :
  Calls Tryz.prog 90 #[.pointer (some ⟨g,0,none⟩)] w fun e w'=>e=.returned (.string (now zs T s))∧Below w.heap.size w w':=by
 obtain ⟨h1,h2,hL,hi⟩:=h
 have c0:w.cell? ⟨g,0,none⟩=some (.slice sv zs.length sc):=hL.at (j:=0) (by omega)
 have c1:w.cell? ⟨g,1,none⟩=some (.slice tv T.length tc):=hL.at (j:=1) (by omega)
 have c2:w.cell? ⟨g,2,none⟩=some (.int .i64 (s.at_:Int)):=hL.at (j:=2) (by omega)
 have c3:w.cell? ⟨g,3,none⟩=some (.int .i64 s.bad):=hL.at (j:=3) (by omega)
 have HM:=hS.many
 unfold now
 rcases over_cases T s with ⟨hb,ho⟩|⟨hb,he,ho⟩|⟨hb,hlt,ho⟩
 ·rw [ho,if_pos rfl]
  have d:decide (0≤s.bad)=true:=decide_eq_true hb
  clear h1 h2 hL hS
  go_enter Tryz.func90,Tryz.ntmps90
  go_wp2_with fail
  go_quiet (fail)
  go_wp2
  go_returns
  exact ⟨rfl,tk.bel_drewN (Below.refl _ _) _⟩
 ·rw [ho,if_pos rfl]
  have d:decide (0≤s.bad)=false:=decide_eq_false hb
  have d2:decide ((T.length:Int)≤(s.at_:Int))=true:=decide_eq_true (by omega)
  clear h1 h2 hL hS
  go_enter Tryz.func90,Tryz.ntmps90
  go_wp2_with fail
  go_quiet (fail)
  go_wp2
  go_returns
  exact ⟨rfl,tk.bel_drewN (Below.refl _ _) _⟩
 ·rw [ho,if_neg (by decide)]
  have d:decide (0≤s.bad)=false:=decide_eq_false hb
  have d2:decide ((T.length:Int)≤(s.at_:Int))=false:=decide_eq_false (by omega)
  have d3:(s.at_:Int)<(T.length:Int):=by omega
  obtain ⟨gT,rfl,t0,t1,t2⟩:=hS.toks.below h1 s.at_ hlt
  have hf:=hS.fits s.at_ hlt
  obtain ⟨b,rfl⟩:=hS.zero (by omega)
  have hsz:=hS.size
  have hrm:=hS.room
  have hmo:=hS.most
  have HS:Hid (Rd w (some ⟨b,0,none⟩) zs):=hS.src.below h1
  obtain ⟨t,ht⟩:∃t,t=strOfNums (textOf zs T s.at_):=⟨_,rfl⟩
  have HT:Hid (t=strOfNums (textOf zs T s.at_)):=ht
  rw [← ht]
  clear ht
  unfold textOf at HT
  generalize (T.getD s.at_ (0,0,0))=tk at t0 t1 t2 hf HT
  obtain ⟨kd,a,m⟩:=tk
  simp only at t0 t1 t2 hf HT
  obtain ⟨n,hn⟩:∃n,n=zs.length:=⟨_,rfl⟩
  have HN:Hid (n=zs.length):=hn
  rw [← hn] at c0 hf hsz hrm
  have i2:(a:Int)≤(a:Int)+(m:Int):=by omega
  have i3:(a:Int)+(m:Int)≤(sc:Int):=by omega
  have i4:¬sc=a:=by omega
  have HV:Hid (∀W,Below w.heap.size w W→(convert 22 9 (.slice (some ⟨b,a,none⟩) m (sc-a))).run Tryz.prog W=.ok (.string t) W):=fun W hW=>by
   rw [HT.out]
   exact conv_part b a m (sc-a) zs W (fun i hi=>by
    obtain ⟨b2,o2,e,hc⟩:=(HS.out.below hW) i hi
    simp only [Option.some.injEq,Addr.mk.injEq,and_true] at e
    obtain ⟨rfl,rfl⟩:=e
    rwa [Nat.zero_add] at hc) (by rw [← HN.out];omega)
  clear h1 h2 hL hS hn
  go_enter Tryz.func90,Tryz.ntmps90
  go_wp2_with fail
  go_quiet (fail)
  rename Nat=>n1
  go_wp2_with fail
  have HC:Hid (∀W,Below w.heap.size w W→W.cell? ⟨g,1,none⟩=some (.slice (some ⟨gT,0,none⟩) T.length tc)∧W.cell? ⟨g,2,none⟩=some (.int .i64 (s.at_:Int))∧W.cell? ⟨gT,s.at_*3,none⟩=some (.int .i64 kd)∧W.cell? ⟨gT,s.at_*3+1,none⟩=some (.int .i64 (a:Int))∧W.cell? ⟨gT,s.at_*3+2,none⟩=some (.int .i64 (m:Int))):=fun W hW=>⟨cellB c1 hW,cellB c2 hW,cellB t0 hW,cellB t1 hW,cellB t2 hW⟩
  have HC0:Hid (∀W,Below w.heap.size w W→W.cell? ⟨g,0,none⟩=some (.slice (some ⟨b,0,none⟩) n sc)):=fun W hW=>cellB c0 hW
  have B1:Hid (Below w.heap.size w (w.drewN n1)):=tk.bel_drewN (Below.refl _ _) _
  generalize w.drewN n1=W1 at B1
  clear c0 c1 c2 c3 t0 t1 t2
  go_region_held3 (fun W=>W.cell? ⟨g,1,none⟩=some (.slice (some ⟨gT,0,none⟩) T.length tc)∧W.cell? ⟨g,2,none⟩=some (.int .i64 (s.at_:Int))∧W.cell? ⟨gT,s.at_*3,none⟩=some (.int .i64 kd)∧W.cell? ⟨gT,s.at_*3+1,none⟩=some (.int .i64 (a:Int))∧W.cell? ⟨gT,s.at_*3+2,none⟩=some (.int .i64 (m:Int))) (first|exact HC.out _ (by repeat (first|exact B1.out|refine Below.drew ?_|refine tk.bel_drewN ?_ _|exact B1.out.alloc B1.out.size _))) (fail)
  obtain ⟨W2,hW2⟩:∃W2,W2=(W1.alloc (.cells #[.int .i64 kd,.int .i64 (a:Int),.int .i64 (m:Int)] 68)).drew:=⟨_,rfl⟩
  have B2:Hid (Below w.heap.size w W2):=by rw [hW2];exact Below.drew (B1.out.alloc B1.out.size _)
  have y1:W2.cell? ⟨W1.heap.size,1,none⟩=some (.int .i64 (a:Int)):=by rw [hW2];exact World.cell?_alloc_new _ _ _ _
  have y2:W2.cell? ⟨W1.heap.size,2,none⟩=some (.int .i64 (m:Int)):=by rw [hW2];exact World.cell?_alloc_new _ _ _ _
  have y0:=HC0.out W2 B2.out
  have kv:∀k,(convert 22 9 (.slice (some ⟨b,a,none⟩) m (sc-a))).run Tryz.prog (W2.drewN k)=.ok (.string t) (W2.drewN k):=fun k=>HV.out _ (tk.bel_drewN B2.out k)
  rw [← hW2]
  clear hW2
  go_wp2_with fail
  go_quiet (fail)
  go_wp2
  go_returns
  exact ⟨rfl,tk.bel_drewN B2.out _⟩
theorem l3is_any {w0 w:World} {sv tv:Option Addr} {sc tc g:Nat} {zs:List Int} {T:List (Int×Nat×Nat)} {s:Ps} (hS:Sr w0 sv sc tv tc zs T) (h:Pp w0 sv sc tv tc zs T w g s) (t:ByteArray) :
  Calls Tryz.prog 55 #[.pointer (some ⟨g,0,none⟩),.string t] w fun e w'=>e=.returned (.bool (isP zs T s t))∧Below w.heap.size w w':=by
 have K:Hid (Calls Tryz.prog 56 #[.pointer (some ⟨g,0,none⟩)] w fun e w'=>e=.returned (.int .i64 (kindP T s))∧∃m,w'=w.drewN m):=l3kind_any hS h
 have N:Hid (∀m,Calls Tryz.prog 90 #[.pointer (some ⟨g,0,none⟩)] (w.drewN m) fun e w'=>e=.returned (.string (now zs T s))∧Below (w.drewN m).heap.size (w.drewN m) w'):=fun m=>l3now_any hS (h.drew m)
 unfold isP
 generalize kindP T s=k at K
 generalize now zs T s=x at N
 clear hS h
 by_cases h4:k=4∨k=5
 ·have e:(k==4 || k==5)=true:=by rcases h4 with rfl|rfl <;> rfl
  rw [e,Bool.true_and]
  clear e
  rcases h4 with rfl|rfl
  all_goals
   go_enter Tryz.func55,Tryz.ntmps55
   go_wp2_with (first
    |(go_at_call 90;refine Calls.mono (N.out _) ?_;rintro e w2 ⟨rfl,hb⟩;have B2:Hid (Below w.heap.size w w2):=(tk.bel_drewN (Below.refl _ _) _).trans hb;clear hb)
    |(go_at_call 56;refine Calls.mono K.out ?_;rintro e w1 ⟨rfl,n1,rfl⟩))
   go_returns
   exact ⟨rfl,B2.out⟩
 ·have e:(k==4 || k==5)=false:=by simp;omega
  have e4:(k==4)=false:=by simp;omega
  have e5:(k==5)=false:=by simp;omega
  rw [e,Bool.false_and]
  clear e h4
  go_enter Tryz.func55,Tryz.ntmps55
  go_wp2_with (go_at_call 56;refine Calls.mono K.out ?_;rintro e w1 ⟨rfl,n1,rfl⟩)
  go_returns
  exact ⟨rfl,tk.bel_drewN (Below.refl _ _) _⟩
theorem l3wrong_any {w0 w:World} {sv tv:Option Addr} {sc tc g:Nat} {zs:List Int} {T:List (Int×Nat×Nat)} {s:Ps} (hS:Sr w0 sv sc tv tc zs T) (h:Pp w0 sv sc tv tc zs T w g s) :
  Calls Tryz.prog 14 #[.pointer (some ⟨g,0,none⟩)] w fun e w'=>(∃v,e=.returned v)∧Pp w0 sv sc tv tc zs T w' g (wrong zs T s)∧Fq g w w':=by
 have HP:Hid (Pp w0 sv sc tv tc zs T w g s):=h
 obtain ⟨h1,h2,hL,hi⟩:=h
 have c0:w.cell? ⟨g,0,none⟩=some (.slice sv zs.length sc):=hL.at (j:=0) (by omega)
 have c3:w.cell? ⟨g,3,none⟩=some (.int .i64 s.bad):=hL.at (j:=3) (by omega)
 have f3:=hL.free 3
 unfold wrong
 by_cases hb:0≤s.bad
 ·rw [if_pos hb]
  clear h1 h2 hL hS
  go_enter Tryz.func14,Tryz.ntmps14
  go_wp2
  go_returns
  exact ⟨⟨_,rfl⟩,HP.out,Fq.refl _ _⟩
 ·rw [if_neg hb]
  have hb2:s.bad<0:=by omega
  obtain ⟨W1,hW1⟩:∃W1,W1=w.setCell ⟨g,3,none⟩ (.int .i64 (zs.length:Int)):=⟨_,rfl⟩
  have HB1:Hid (Below w0.heap.size w0 W1):=by rw [hW1];exact h1.setCell (p:=⟨g,3,none⟩) h2 _
  have HF1:Hid (Fq g w W1):=by rw [hW1];exact Fq.set w _
  have L1:tk.Lone 37 6 W1 g [.slice sv zs.length sc,.slice tv T.length tc,.int .i64 (s.at_:Int),.int .i64 (zs.length:Int),.bool s.long,.bool s.loop]:=by rw [hW1];exact hL.set 3 _
  have HL1:Hid _:=L1
  have d1:W1.cell? ⟨g,1,none⟩=some (.slice tv T.length tc):=L1.at (j:=1) (by omega)
  have d2:W1.cell? ⟨g,2,none⟩=some (.int .i64 (s.at_:Int)):=L1.at (j:=2) (by omega)
  have H2:Hid (w0.heap.size≤g):=h2
  by_cases hlt:s.at_<T.length
  ·rw [if_pos hlt]
   have i1:(s.at_:Int)<(T.length:Int):=by omega
   have TK0:Hid (∀W,Below w0.heap.size w0 W→∃gT,tv=some ⟨gT,0,none⟩∧W.cell? ⟨gT,s.at_*3+1,none⟩=some (.int .i64 ((T.getD s.at_ (0,0,0)).2.1:Int))):=fun W hW=>by
    obtain ⟨gT,e,_,t1,_⟩:=hS.toks.below hW s.at_ hlt
    exact ⟨gT,e,t1⟩
   obtain ⟨gT,rfl,t1⟩:=TK0.out W1 HB1.out
   have TK:Hid (∀W,Below w0.heap.size w0 W→W.cell? ⟨gT,s.at_*3+1,none⟩=some (.int .i64 ((T.getD s.at_ (0,0,0)).2.1:Int))):=fun W hW=>by
    obtain ⟨g2,e,t⟩:=TK0.out W hW
    cases e
    exact t
   clear TK0
   generalize (T.getD s.at_ (0,0,0)).2.1=a at t1 TK
   have HM:=hS.many
   clear h1 h2 hL hS
   go_enter Tryz.func14,Tryz.ntmps14
   go_wp2_with fail
   rw [← hW1]
   clear hW1 c0 c3 f3 L1
   go_quiet (fail)
   go_wp2_with fail
   have L2:Hid (tk.Lone 37 6 (W1.drewN nq).drew g [.slice sv zs.length sc,.slice (some ⟨gT,0,none⟩) T.length tc,.int .i64 (s.at_:Int),.int .i64 (zs.length:Int),.bool s.long,.bool s.loop]):=drew_lone HL1.out (nq+1)
   have B2:Hid (Below w0.heap.size w0 (W1.drewN nq).drew):=Below.drew (tk.bel_drewN HB1.out nq)
   have F2:Hid (Fq g w (W1.drewN nq).drew):=HF1.out.drewN (nq+1)
   have T1:Hid (∀W,Below w0.heap.size w0 W→W.cell? ⟨gT,s.at_*3+1,none⟩=some (.int .i64 (a:Int))):=TK.out
   generalize W1.drewN nq=V at L2 B2 F2
   have q3:V.drew.cell? ⟨g,3,none⟩=some (.int .i64 (zs.length:Int)):=L2.out.at (j:=3) (by omega)
   have L3:Hid (tk.Lone 37 6 (V.drew.setCell ⟨g,3,none⟩ (.int .i64 (a:Int))) g [.slice sv zs.length sc,.slice (some ⟨gT,0,none⟩) T.length tc,.int .i64 (s.at_:Int),.int .i64 (a:Int),.bool s.long,.bool s.loop]):=L2.out.set 3 _
   have B3:Hid (Below w0.heap.size w0 (V.drew.setCell ⟨g,3,none⟩ (.int .i64 (a:Int)))):=B2.out.setCell (p:=⟨g,3,none⟩) H2.out _
   have F3:Hid (Fq g w (V.drew.setCell ⟨g,3,none⟩ (.int .i64 (a:Int)))):=F2.out.trans (Fq.set _ _)
   have S2:Hid ((V.drew.cell? ⟨g,1,none⟩=some (.slice (some ⟨gT,0,none⟩) T.length tc)∧V.drew.cell? ⟨g,2,none⟩=some (.int .i64 (s.at_:Int))∧V.drew.cell? ⟨gT,s.at_*3+1,none⟩=some (.int .i64 (a:Int))∧V.drew.frozen? ⟨g,3,none⟩=false)):=⟨L2.out.at (j:=1) (by omega),L2.out.at (j:=2) (by omega),T1.out _ B2.out,L2.out.free 3⟩
   have S3:Hid (((V.drew.setCell ⟨g,3,none⟩ (.int .i64 (a:Int))).cell? ⟨g,1,none⟩=some (.slice (some ⟨gT,0,none⟩) T.length tc)∧(V.drew.setCell ⟨g,3,none⟩ (.int .i64 (a:Int))).cell? ⟨g,2,none⟩=some (.int .i64 (s.at_:Int))∧(V.drew.setCell ⟨g,3,none⟩ (.int .i64 (a:Int))).cell? ⟨gT,s.at_*3+1,none⟩=some (.int .i64 (a:Int))∧(V.drew.setCell ⟨g,3,none⟩ (.int .i64 (a:Int))).frozen? ⟨g,3,none⟩=false)):=⟨L3.out.at (j:=1) (by omega),L3.out.at (j:=2) (by omega),T1.out _ B3.out,L3.out.free 3⟩
   clear d1 d2 t1
   go_region_held3 (fun W=>(W.cell? ⟨g,1,none⟩=some (.slice (some ⟨gT,0,none⟩) T.length tc)∧W.cell? ⟨g,2,none⟩=some (.int .i64 (s.at_:Int))∧W.cell? ⟨gT,s.at_*3+1,none⟩=some (.int .i64 (a:Int))∧W.frozen? ⟨g,3,none⟩=false)) (first|exact S2.out|exact S3.out) (fail)
   go_wp2
   go_returns
   exact ⟨⟨_,rfl⟩,⟨B3.out,H2.out,L3.out,hi⟩,F3.out⟩
  ·rw [if_neg hlt]
   have i1:¬((s.at_:Int)<(T.length:Int)):=by omega
   have i2:decide ((s.at_:Int)<(T.length:Int))=false:=decide_eq_false i1
   clear h1 h2 hL hS
   go_enter Tryz.func14,Tryz.ntmps14
   go_wp2_with fail
   rw [← hW1]
   clear hW1 c0 c3 f3 L1
   go_quiet (fail)
   go_wp2
   go_returns
   exact ⟨⟨_,rfl⟩,⟨tk.bel_drewN HB1.out _,H2.out,drew_lone HL1.out _,hi⟩,HF1.out.drewN _⟩
theorem pp_step {w0 w:World} {sv tv:Option Addr} {sc tc g:Nat} {zs:List Int} {T:List (Int×Nat×Nat)} {s:Ps} (h:Pp w0 sv sc tv tc zs T w g s) (hlt:s.at_<T.length):Pp w0 sv sc tv tc zs T (w.setCell ⟨g,2,none⟩ (.int .i64 ((s.at_:Int)+1))) g (step s) :=
 ⟨h.1.setCell (p:=⟨g,2,none⟩) h.2.1 _,h.2.1,h.2.2.1.set 2 _,hlt⟩
theorem is_lt {zs:List Int} {T:List (Int×Nat×Nat)} {s:Ps} {t:ByteArray} (h:isP zs T s t=true):s.at_<T.length:=by
 rcases over_cases T s with ⟨_,ho⟩|⟨_,_,ho⟩|⟨_,hlt,_⟩
 ·simp [isP,kindP,ho] at h
 ·simp [isP,kindP,ho] at h
 ·exact hlt
theorem kind_lt {T:List (Int×Nat×Nat)} {s:Ps} (h:¬kindP T s=0):s.at_<T.length:=by
 rcases over_cases T s with ⟨_,ho⟩|⟨_,_,ho⟩|⟨_,hlt,_⟩
 ·simp [kindP,ho] at h
 ·simp [kindP,ho] at h
 ·exact hlt
theorem fq_bel {g:Nat} {w w':World} (hg:g<w.heap.size) (h:Below w.heap.size w w'):Fq g w w':=(Fq.refl g w).grown (by omega) h
theorem l3want_any {w0 w:World} {sv tv:Option Addr} {sc tc g:Nat} {zs:List Int} {T:List (Int×Nat×Nat)} {s:Ps} (hS:Sr w0 sv sc tv tc zs T) (h:Pp w0 sv sc tv tc zs T w g s) (t:ByteArray) :
  Calls Tryz.prog 61 #[.pointer (some ⟨g,0,none⟩),.string t] w fun e w'=>(∃v,e=.returned v)∧Pp w0 sv sc tv tc zs T w' g (want zs T s t)∧Fq g w w':=by
 have HP:Hid (Pp w0 sv sc tv tc zs T w g s):=h
 have IS:Hid (Calls Tryz.prog 55 #[.pointer (some ⟨g,0,none⟩),.string t] w fun e w'=>e=.returned (.bool (isP zs T s t))∧Below w.heap.size w w'):=l3is_any hS h t
 have WR:Hid (∀W,Pp w0 sv sc tv tc zs T W g s→Calls Tryz.prog 14 #[.pointer (some ⟨g,0,none⟩)] W fun e w'=>(∃v,e=.returned v)∧Pp w0 sv sc tv tc zs T w' g (wrong zs T s)∧Fq g W w'):=fun W hW=>l3wrong_any hS hW
 have HM:=hS.many
 unfold want
 cases hi:isP zs T s t
 ·rw [hi] at IS
  rw [if_neg (by decide)]
  clear hS h hi
  go_enter Tryz.func61,Tryz.ntmps61
  go_wp2_with (first
   |(go_at_call 14;refine Calls.mono (WR.out _ (HP.out.keep B1.out)) ?_;rintro e w2 ⟨⟨v,rfl⟩,hP2,hF2⟩;have P2:Hid _:=hP2;have F2:Hid (Fq g w w2):=(fq_bel HP.out.lt B1.out).trans hF2;clear hP2 hF2)
   |(go_at_call 55;refine Calls.mono IS.out ?_;rintro e w1 ⟨rfl,hb⟩;have B1:Hid (Below w.heap.size w w1):=hb;clear hb))
  go_returns
  exact ⟨⟨_,rfl⟩,P2.out,F2.out⟩
 ·have hlt:=is_lt hi
  rw [hi] at IS
  rw [if_pos rfl]
  clear hS h hi WR
  go_enter Tryz.func61,Tryz.ntmps61
  go_wp2_with (go_at_call 55;refine Calls.mono IS.out ?_;rintro e w1 ⟨rfl,hb⟩;have P1:Hid (Pp w0 sv sc tv tc zs T w1 g s):=HP.out.keep hb;have F1:Hid (Fq g w w1):=fq_bel HP.out.lt hb;have c2:w1.cell? ⟨g,2,none⟩=some (.int .i64 (s.at_:Int)):=P1.out.2.2.1.at (j:=2) (by omega);have f2:=P1.out.2.2.1.free 2;clear hb)
  go_returns
  exact ⟨⟨_,rfl⟩,pp_step P1.out hlt,F1.out.trans (Fq.set _ _)⟩
theorem l3got_any {w0 w:World} {sv tv:Option Addr} {sc tc g:Nat} {zs:List Int} {T:List (Int×Nat×Nat)} {s:Ps} (hS:Sr w0 sv sc tv tc zs T) (h:Pp w0 sv sc tv tc zs T w g s) (t:ByteArray) :
  Calls Tryz.prog 28 #[.pointer (some ⟨g,0,none⟩),.string t] w fun e w'=>e=.returned (.bool (isP zs T s t))∧Pp w0 sv sc tv tc zs T w' g (got zs T s t)∧Fq g w w':=by
 have HP:Hid (Pp w0 sv sc tv tc zs T w g s):=h
 have IS:Hid (Calls Tryz.prog 55 #[.pointer (some ⟨g,0,none⟩),.string t] w fun e w'=>e=.returned (.bool (isP zs T s t))∧Below w.heap.size w w'):=l3is_any hS h t
 have HM:=hS.many
 unfold got
 cases hi:isP zs T s t
 ·rw [hi] at IS
  rw [if_neg (by decide)]
  clear hS h hi
  go_enter Tryz.func28,Tryz.ntmps28
  go_wp2_with (go_at_call 55;refine Calls.mono IS.out ?_;rintro e w1 ⟨rfl,hb⟩;have B1:Hid (Below w.heap.size w w1):=hb;clear hb)
  go_returns
  exact ⟨rfl,HP.out.keep B1.out,fq_bel HP.out.lt B1.out⟩
 ·have hlt:=is_lt hi
  rw [hi] at IS
  rw [if_pos rfl]
  clear hS h hi
  go_enter Tryz.func28,Tryz.ntmps28
  go_wp2_with (go_at_call 55;refine Calls.mono IS.out ?_;rintro e w1 ⟨rfl,hb⟩;have P1:Hid (Pp w0 sv sc tv tc zs T w1 g s):=HP.out.keep hb;have F1:Hid (Fq g w w1):=fq_bel HP.out.lt hb;have c2:w1.cell? ⟨g,2,none⟩=some (.int .i64 (s.at_:Int)):=P1.out.2.2.1.at (j:=2) (by omega);have f2:=P1.out.2.2.1.free 2;clear hb)
  go_returns
  exact ⟨rfl,pp_step P1.out hlt,F1.out.trans (Fq.set _ _)⟩
theorem rdV_text {B:Nat→Bool} (w:World) (s:ByteArray) (cap:Nat) (hs:s.size≤6000) (hB:B w.heap.size=false):RdV (veil B (Lib.bytesWorld w 5 s)) (.slice (some ⟨w.heap.size,0,none⟩) s.size cap) (nums s):=by
 refine ⟨_,cap,by rw [nums_length],by rw [nums_length];omega,fun i hi=>⟨w.heap.size,0,rfl,?_⟩,nums_bts s⟩
 rw [nums_length] at hi
 refine cell_veil ?_ hB
 have h:=Lib.bytesWorld_cell w 5 s i (by simpa using hi)
 rw [Nat.zero_add,h]
 simp only [nums]
 rw [List.getD_eq_getElem?_getD,List.getD_eq_getElem?_getD,List.getElem?_map,List.getElem?_eq_getElem (by simpa using hi)]
 rfl
theorem up_fq {B:Nat→Bool} {g:Nat} {w w':World} (h:Fq g w w') (hg:B g=true):Up B w w' :=
 ⟨h.below.size,fun b hb hl=>h.keep b hl (fun e=>by subst e;rw [hg] at hb;cases hb)⟩
theorem now_size {w0:World} {sv tv:Option Addr} {sc tc:Nat} {zs:List Int} {T:List (Int×Nat×Nat)} (hS:Sr w0 sv sc tv tc zs T) (s:Ps):(now zs T s).size≤6000:=by
 unfold now
 split
 ·decide
 ·rw [strOfNums_size]
  have:=hS.size
  unfold textOf lex.part
  rw [List.length_take,List.length_drop]
  omega
theorem pp_long {w0 w:World} {sv tv:Option Addr} {sc tc g:Nat} {zs:List Int} {T:List (Int×Nat×Nat)} {s:Ps} (h:Pp w0 sv sc tv tc zs T w g s) (b:Bool):Pp w0 sv sc tv tc zs T (w.setCell ⟨g,4,none⟩ (.bool b)) g {s with long:=b} :=
 ⟨h.1.setCell (p:=⟨g,4,none⟩) h.2.1 _,h.2.1,h.2.2.1.set 4 _,h.2.2.2⟩
theorem l3name_any {w0 w:World} {sv tv:Option Addr} {sc tc g:Nat} {zs:List Int} {T:List (Int×Nat×Nat)} {s:Ps} (hS:Sr w0 sv sc tv tc zs T) (h:Pp w0 sv sc tv tc zs T w g s) :
  Calls Tryz.prog 58 #[.pointer (some ⟨g,0,none⟩)] w fun e w'=>∃v,e=.returned v∧RdV (veil (lt w.heap.size) w') v (nameT zs T s)∧Pp w0 sv sc tv tc zs T w' g (nameS zs T s)∧Fq g w w':=by
 have HP:Hid (Pp w0 sv sc tv tc zs T w g s):=h
 have KD:Hid (Calls Tryz.prog 56 #[.pointer (some ⟨g,0,none⟩)] w fun e w'=>e=.returned (.int .i64 (kindP T s))∧∃m,w'=w.drewN m):=l3kind_any hS h
 have NW:Hid (∀m,Calls Tryz.prog 90 #[.pointer (some ⟨g,0,none⟩)] (w.drewN m) fun e w'=>e=.returned (.string (now zs T s))∧Below (w.drewN m).heap.size (w.drewN m) w'):=fun m=>l3now_any hS (h.drew m)
 have WR:Hid (∀W,Pp w0 sv sc tv tc zs T W g s→Calls Tryz.prog 14 #[.pointer (some ⟨g,0,none⟩)] W fun e w'=>(∃v,e=.returned v)∧Pp w0 sv sc tv tc zs T w' g (wrong zs T s)∧Fq g W w'):=fun W hW=>l3wrong_any hS hW
 have HM:=hS.many
 have hsz:=now_size hS s
 unfold nameT nameS
 by_cases hk:kindP T s=1
 ·have hlt:s.at_<T.length:=kind_lt (by omega)
  rw [if_pos hk,if_pos hk]
  rw [hk] at KD
  generalize now zs T s=t at NW hsz
  obtain ⟨lg,hlg⟩:∃b,b=(s.long || decide (5000<t.size)):=⟨_,rfl⟩
  have HLG:Hid (lg=(s.long || decide (5000<t.size))):=hlg
  rw [← hlg]
  clear hS h hk WR hlg
  have hl:s.long=true∨s.long=false:=by cases s.long <;> simp
  rcases hl with hl|hl
  ·have hX:Hid (lg=true):=by show _=_;rw [HLG.out,hl];rfl
   go_enter Tryz.func58,Tryz.ntmps58
   go_wp2_with (first
    |(go_at_call 90;refine Calls.mono (NW.out _) ?_;rintro e w2 ⟨rfl,hb⟩;have B2:Hid (Below w.heap.size w w2):=(tk.bel_drewN (Below.refl _ _) _).trans hb;have P2:Hid (Pp w0 sv sc tv tc zs T w2 g s):=HP.out.keep B2.out;have kv:=Lib.run_convert_string_bytes w2 9 22 5 t Tryz.underlying9 Tryz.underlying22 Tryz.underlying5;have RV:Hid _:=rdV_text (B:=lt w.heap.size) w2 t (grownCap w2 t.size 0 5) hsz (lt_ge B2.out.size);have P3:Hid (Pp w0 sv sc tv tc zs T (Lib.bytesWorld w2 5 t) g s):=P2.out.keep (bel_bytes w2 t);have F3:Hid (Fq g w (Lib.bytesWorld w2 5 t)):=fq_bel HP.out.lt (B2.out.trans ((bel_bytes w2 t).mono B2.out.size));have c2:(Lib.bytesWorld w2 5 t).cell? ⟨g,2,none⟩=some (.int .i64 (s.at_:Int)):=P3.out.2.2.1.at (j:=2) (by omega);have f2:=P3.out.2.2.1.free 2;have c4:(Lib.bytesWorld w2 5 t).cell? ⟨g,4,none⟩=some (.bool s.long):=P3.out.2.2.1.at (j:=4) (by omega);have f4:=P3.out.2.2.1.free 4;rw [hl] at c4;clear hb)
    |(go_at_call 56;refine Calls.mono KD.out ?_;rintro e w1 ⟨rfl,n1,rfl⟩))
   go_returns
   exact ⟨_,rfl,RdV.up RV.out (up_fq ((Fq.set _ _).trans (Fq.set _ _)) (by have:=HP.out.lt;simp [lt];exact this)),by rw [hX.out];exact pp_long (pp_step P3.out hlt) true,F3.out.trans ((Fq.set _ _).trans (Fq.set _ _))⟩
  ·have hX:Hid (lg=decide ((5000:Int)<(t.size:Int))):=by show _=_;rw [HLG.out,hl,Bool.false_or];exact decide_eq_decide.2 (by omega)
   go_enter Tryz.func58,Tryz.ntmps58
   go_wp2_with (first
    |(go_at_call 90;refine Calls.mono (NW.out _) ?_;rintro e w2 ⟨rfl,hb⟩;have B2:Hid (Below w.heap.size w w2):=(tk.bel_drewN (Below.refl _ _) _).trans hb;have P2:Hid (Pp w0 sv sc tv tc zs T w2 g s):=HP.out.keep B2.out;have kv:=Lib.run_convert_string_bytes w2 9 22 5 t Tryz.underlying9 Tryz.underlying22 Tryz.underlying5;have RV:Hid _:=rdV_text (B:=lt w.heap.size) w2 t (grownCap w2 t.size 0 5) hsz (lt_ge B2.out.size);have P3:Hid (Pp w0 sv sc tv tc zs T (Lib.bytesWorld w2 5 t) g s):=P2.out.keep (bel_bytes w2 t);have F3:Hid (Fq g w (Lib.bytesWorld w2 5 t)):=fq_bel HP.out.lt (B2.out.trans ((bel_bytes w2 t).mono B2.out.size));have c2:(Lib.bytesWorld w2 5 t).cell? ⟨g,2,none⟩=some (.int .i64 (s.at_:Int)):=P3.out.2.2.1.at (j:=2) (by omega);have f2:=P3.out.2.2.1.free 2;have c4:(Lib.bytesWorld w2 5 t).cell? ⟨g,4,none⟩=some (.bool s.long):=P3.out.2.2.1.at (j:=4) (by omega);have f4:=P3.out.2.2.1.free 4;rw [hl] at c4;clear hb)
    |(go_at_call 56;refine Calls.mono KD.out ?_;rintro e w1 ⟨rfl,n1,rfl⟩))
   go_returns
   exact ⟨_,rfl,RdV.up RV.out (up_fq ((Fq.set _ _).trans (Fq.set _ _)) (by have:=HP.out.lt;simp [lt];exact this)),by rw [hX.out];exact pp_long (pp_step P3.out hlt) _,F3.out.trans ((Fq.set _ _).trans (Fq.set _ _))⟩
 ·have e1:(kindP T s==1)=false:=by simp;exact hk
  rw [if_neg hk,if_neg hk]
  generalize kindP T s=k at KD e1
  clear hS h hk NW hsz
  go_enter Tryz.func58,Tryz.ntmps58
  go_wp2_with (first
   |(go_at_call 14;refine Calls.mono (WR.out _ (HP.out.drew _)) ?_;rintro e w2 ⟨⟨v,rfl⟩,hP2,hF2⟩;have P2:Hid _:=hP2;have F2:Hid (Fq g w w2):=((Fq.refl g w).drewN _).trans hF2;clear hP2 hF2)
   |(go_at_call 56;refine Calls.mono KD.out ?_;rintro e w1 ⟨rfl,n1,rfl⟩))
  go_returns
  exact ⟨_,rfl,rdV_nil _,P2.out,F2.out⟩
end ps
end Go.Proofs.YtkmiagkehcflnaaGreatDoor
