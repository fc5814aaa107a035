import Derived.Test.YtkmiagkehcflnaaGreatDoorMTrFitsA
set_option maxRecDepth 100000
set_option maxHeartbeats 8000000
namespace Go.Proofs.YtkmiagkehcflnaaGreatDoor
namespace vt
open Go.RowKit bts nod lex
theorem ip_at {ks:List Int} {k:Nat} (hk:k<ks.length) (h:takes (if k % 2=1∨k+1=ks.length then 0 else 2) (ks.getD k 0)=false):ifParts ks.length 0 ks=false:=by
 rw [Bool.eq_false_iff]
 intro hc
 have:=ifParts_iff.1 hc k hk
 rw [Nat.zero_add,h] at this
 cases this
theorem ip_yes {ks:List Int} (h:∀k,k<ks.length→takes (if k % 2=1∨k+1=ks.length then 0 else 2) (ks.getD k 0)=true):ifParts ks.length 0 ks=true:=by
 refine ifParts_iff.2 fun k hk=>?_
 rw [Nat.zero_add]
 exact h k hk
theorem lo_at {ks:List Int} {k:Nat} (hk:k+1<ks.length) (h:ks.getD k 0=9∨ks.getD k 0=8):lastOnly ks=false:=by
 rw [Bool.eq_false_iff]
 intro hc
 exact lastOnly_iff.1 hc k hk h
theorem ft6 (g:Nat) (d:Nd) (ao:Option Addr) (cap:Nat) (at_ an:Option Addr) (ca cn:Nat) (w:World) (ts:List Int) (N:Node6 w g d ao ts.length cap at_ an ca cn) (hm:RcVV w (.slice an d.names.length cn) d.names) (hsz:d.text.length+sizeSS d.names≤1048576) (h:RepS w (.slice ao ts.length cap) ts) :
  Calls Tryz.prog 200 #[.pointer (some ⟨g,0,none⟩)] w fun e w'=>e=.returned (.bool (ifParts ts.length 0 ts&&(named d.n d.text d.names 0 0&&decide (2≤ts.length))))∧Below w.heap.size w w':=by
 have P:Hid (∀W,Below w.heap.size w W→_):=fun W (hW:Below w.heap.size w W)=>plain_any g d ao ts.length cap at_ an ca cn W (N.below hW) (hm.below hW) hsz
 have c5:=N.c5
 have HN:Hid (Node6 w g d ao ts.length cap at_ an ca cn):=N
 have HS:Hid (RepS w (.slice ao ts.length cap) ts):=h
 have hl6:ts.length≤1048576:=by obtain ⟨_,_,_,_,_,h3,_⟩:=h;exact h3
 obtain ⟨rr,hrr⟩:∃rr,rr=(ifParts ts.length 0 ts&&(named d.n d.text d.names 0 0&&decide (2≤ts.length))):=⟨_,rfl⟩
 rw [← hrr]
 have HRR:Hid (rr=(ifParts ts.length 0 ts&&(named d.n d.text d.names 0 0&&decide (2≤ts.length)))):=hrr
 obtain ⟨nb,hnb⟩:∃nb,nb=named d.n d.text d.names 0 0:=⟨_,rfl⟩
 rw [← hnb] at P HRR
 obtain ⟨m,hmm⟩:∃m,m=ts.length:=⟨_,rfl⟩
 have HM:Hid (m=ts.length∧ts.length=m):=⟨hmm,by omega⟩
 rw [← hmm] at c5 hl6 HN
 clear N hm hsz h hrr hnb hmm
 go_enter Tryz.func200,Tryz.ntmps200
 go_wp2_with fail
 go_loopw [12] (fun x wr=>∃(k:Nat),k≤m∧x=.int .i64 k∧Hid (∀j,j<k→takes (if j % 2=1∨j+1=m then 0 else 2) (ts.getD j 0)=true)∧Below w.heap.size w wr) (fun x _=>m-(intOf x).toNat)
 case atStart=>exact ⟨0,by omega,rfl,fun j hj=>absurd hj (by omega),Below.refl _ _⟩
 case round =>
  obtain ⟨k,hk,rfl,HA,hbel⟩:=hrel
  by_cases hkq:k<m
  ·obtain ⟨ao2,cap2,eq2,_,_,_,hx⟩:=HS.out.kept hbel
   simp only [Value.slice.injEq] at eq2
   obtain ⟨rfl,hml,rfl⟩:=eq2
   clear hml
   obtain ⟨b,off,u,eu,hcu,D',t',hru,hkt⟩:=hx k (by have:=HM.out;omega)
   subst eu
   have q5:=(HN.out.below hbel).c5
   obtain ⟨r,hr⟩:∃r:Nat,r=if k % 2=1∨k+1=m then 0 else 2:=⟨_,rfl⟩
   have CN:=takes_any r (by rw [hr];split <;> omega) hru
   rw [hkt] at CN
   obtain ⟨bb,hbb⟩:∃bb,bb=takes r (ts.getD k 0):=⟨_,rfl⟩
   rw [← hbb] at CN
   have HB:Hid (bb=takes (if k % 2=1∨k+1=m then 0 else 2) (ts.getD k 0)):=by show _=_;rw [hbb,hr]
   have HBel:Hid (Below w.heap.size w wr):=hbel
   obtain ⟨T,gg,rfl⟩:∃T g,u=.iface T (.pointer (some ⟨g,0,none⟩)):=by obtain ⟨g,_,_,_,_,_,_,e,_⟩:=hru.open;exact ⟨_,g,e⟩
   clear hkt
   have i1:(k:Int)<(m:Int):=by omega
   have q1:IntKind.i64.wrap ((m:Int)-1)=(m:Int)-1:=IntWalk.i64_in _ ⟨by omega,by omega⟩
   have finish:Hid (∀w',Below w.heap.size w w'→bb=false→Below w.heap.size w w'∧rr=false):=fun w' hw' hb=>⟨hw',by rw [HRR.out,ip_at (by rw [HM.out.2];exact hkq) (by rw [HM.out.2,← HB.out,hb])];rfl⟩
   have again:Hid (bb=true→∀j,j<k+1→takes (if j % 2=1∨j+1=m then 0 else 2) (ts.getD j 0)=true):=by
    intro hb j hj
    by_cases hjk:j<k
    ·exact HA.out j hjk
    ·have:j=k:=by omega
     subst this
     rw [← HB.out,hb]
   clear hx hru hbel c5 HA HB hbb
   by_cases ho:k % 2=1
   ·have o1:((k:Int) % 2==1)=true:=by simp;omega
    rw [if_pos (.inl ho)] at hr
    subst hr
    go_wp2_with fail
    refine CN.mono ?_
    rintro e w' ⟨rfl,hw⟩
    clear CN
    have HB2:Hid (Below w.heap.size w w'):=HBel.out.trans (hw.mono HBel.out.size)
    clear hw
    cases bb with
    |false =>
     go_wp2_with fail
     go_ret
     exact ⟨ret_bool (finish.out w' HB2.out (by first|rfl|trivial)).2.symm,HB2.out⟩
    |true =>
     go_wp2_with fail
     go_roundw
     case rel=>exact ⟨k+1,by omega,by go_num,again.out (by first|rfl|trivial),HB2.out⟩
     case measure=>simp [intOf];omega
   ·have o1:((k:Int) % 2==1)=false:=by simp;omega
    by_cases hl:k+1=m
    ·have o2:((k:Int)==(m:Int)-1)=true:=by simp;omega
     rw [if_pos (.inr hl)] at hr
     subst hr
     go_wp2_with fail
     refine CN.mono ?_
     rintro e w' ⟨rfl,hw⟩
     clear CN
     have HB2:Hid (Below w.heap.size w w'):=HBel.out.trans (hw.mono HBel.out.size)
     clear hw
     cases bb with
     |false =>
      go_wp2_with fail
      go_ret
      exact ⟨ret_bool (finish.out w' HB2.out (by first|rfl|trivial)).2.symm,HB2.out⟩
     |true =>
      go_wp2_with fail
      go_roundw
      case rel=>exact ⟨k+1,by omega,by go_num,again.out (by first|rfl|trivial),HB2.out⟩
      case measure=>simp [intOf];omega
    ·have o2:((k:Int)==(m:Int)-1)=false:=by simp;omega
     rw [if_neg (by omega)] at hr
     subst hr
     go_wp2_with fail
     refine CN.mono ?_
     rintro e w' ⟨rfl,hw⟩
     clear CN
     have HB2:Hid (Below w.heap.size w w'):=HBel.out.trans (hw.mono HBel.out.size)
     clear hw
     cases bb with
     |false =>
      go_wp2_with fail
      go_ret
      exact ⟨ret_bool (finish.out w' HB2.out (by first|rfl|trivial)).2.symm,HB2.out⟩
     |true =>
      go_wp2_with fail
      go_roundw
      case rel=>exact ⟨k+1,by omega,by go_num,again.out (by first|rfl|trivial),HB2.out⟩
      case measure=>simp [intOf];omega
  ·have hkq2:k=m:=by omega
   subst hkq2
   have q5:=(HN.out.below hbel).c5
   have HBel:Hid (Below w.heap.size w wr):=hbel
   have fin:Hid (rr=(nb&&decide (2≤k))):=by show _=_;rw [HRR.out,ip_yes (fun j hj=>by rw [HM.out.2] at hj ⊢;exact HA.out j hj),HM.out.2];rfl
   clear hbel c5
   go_wp2_with fail
   refine (P.out wr HBel.out).mono ?_
   rintro e w' ⟨rfl,hw⟩
   replace hw:=hw.symm
   subst hw
   clear P
   cases nb with
   |false =>
    go_wp2_with fail
    go_ret
    exact ⟨ret_bool (by rw [fin.out];rfl),HBel.out⟩
   |true =>
    go_wp2_with fail
    go_ret
    exact ⟨ret_bool (by rw [fin.out];simp;omega),HBel.out⟩
theorem ft0 (g:Nat) (d:Nd) (ao:Option Addr) (cap:Nat) (at_ an:Option Addr) (ca cn:Nat) (w:World) (ts:List Int) (N:Node6 w g d ao ts.length cap at_ an ca cn) (hm:RcVV w (.slice an d.names.length cn) d.names) (hsz:d.text.length+sizeSS d.names≤1048576) (h:RepS w (.slice ao ts.length cap) ts) :
  Calls Tryz.prog 170 #[.pointer (some ⟨g,0,none⟩)] w fun e w'=>e=.returned (.bool (lastOnly ts&&(named d.n d.text d.names 0 0&&takesAll 1 ts 0 6000)))∧Below w.heap.size w w':=by
 have P:Hid (∀W,Below w.heap.size w W→_):=fun W (hW:Below w.heap.size w W)=>plain_any g d ao ts.length cap at_ an ca cn W (N.below hW) (hm.below hW) hsz
 have TA:Hid (∀W,Below w.heap.size w W→_):=fun W (hW:Below w.heap.size w W)=>takesAll_any 1 (by omega) _ ts 0 6000 W (h.kept hW) (by omega) (by omega)
 have c5:=N.c5
 have HN:Hid (Node6 w g d ao ts.length cap at_ an ca cn):=N
 have HS:Hid (RepS w (.slice ao ts.length cap) ts):=h
 have hl6:ts.length≤1048576:=by obtain ⟨_,_,_,_,_,h3,_⟩:=h;exact h3
 obtain ⟨nb,hnb⟩:∃nb,nb=named d.n d.text d.names 0 0:=⟨_,rfl⟩
 obtain ⟨ta,hta⟩:∃ta,ta=takesAll 1 ts 0 6000:=⟨_,rfl⟩
 obtain ⟨rr,hrr⟩:∃rr,rr=(lastOnly ts&&(named d.n d.text d.names 0 0&&takesAll 1 ts 0 6000)):=⟨_,rfl⟩
 rw [← hrr]
 have HRR:Hid (rr=(lastOnly ts&&(nb&&ta))):=by show _=_;rw [hrr,hnb,hta]
 rw [← hnb] at P
 rw [← hta] at TA
 obtain ⟨m,hmm⟩:∃m,m=ts.length:=⟨_,rfl⟩
 have HM:Hid (m=ts.length∧ts.length=m):=⟨hmm,by omega⟩
 rw [← hmm] at c5 hl6 HN TA
 clear N hm hsz h hrr hnb hmm hta
 go_enter Tryz.func170,Tryz.ntmps170
 go_wp2_with fail
 go_loopw [12] (fun x wr=>∃(k:Nat),k≤m∧x=.int .i64 k∧Hid (∀j,j<k→j+1<m→¬(ts.getD j 0=9∨ts.getD j 0=8))∧Below w.heap.size w wr) (fun x _=>m-(intOf x).toNat)
 case atStart=>exact ⟨0,by omega,rfl,fun j hj=>absurd hj (by omega),Below.refl _ _⟩
 case round =>
  obtain ⟨k,hk,rfl,HA,hbel⟩:=hrel
  by_cases hkq:k<m
  ·obtain ⟨ao2,cap2,eq2,_,_,_,hx⟩:=HS.out.kept hbel
   simp only [Value.slice.injEq] at eq2
   obtain ⟨rfl,hml,rfl⟩:=eq2
   clear hml
   obtain ⟨b,off,u,eu,hcu,D',t',hru,hkt⟩:=hx k (by have:=HM.out;omega)
   subst eu
   obtain ⟨g2,ao3,cap3,at3,an3,ca3,cn3,rfl,hk0,hk1,N2,_⟩:=hru.open
   unfold kindT at hkt
   generalize dT t'=d2 at *
   have HK:Hid (ts.getD k 0=d2.kind):=hkt.symm
   have R:=row_any g2 wr _ _ _ _ _ _ _ _ _ N2.c0 N2.c1 N2.c2 N2.c3 N2.c4
   have M:=m_row hk0 hk1 g2
   have F:=fun W=>fld0 d2.kind d2.n d2.count (.slice at3 d2.text.length ca3) (.slice an3 d2.names.length cn3) W
   have Q5:Hid (∀W,Below wr.heap.size wr W→W.cell? ⟨g,5,none⟩=some (.slice (some ⟨b,off,none⟩) m cap)):=fun W hW=>((HN.out.below hbel).below hW).c5
   have HBel:Hid (Below w.heap.size w wr):=hbel
   have i1:(k:Int)<(m:Int):=by omega
   have q1:IntKind.i64.wrap ((m:Int)-1)=(m:Int)-1:=IntWalk.i64_in _ ⟨by omega,by omega⟩
   generalize ty d2.kind=T at M hcu
   generalize d2.kind=kd at *
   generalize d2.n=nn2 at *
   generalize d2.count=ct2 at *
   generalize d2.text.length=p2 at *
   generalize d2.names.length=q2 at *
   clear hx hru hbel c5 N2 hkt hk0 hk1
   by_cases hb:(kd=9∨kd=8)∧k+1<m
   ·have fin:Hid (rr=false):=by show _=_;rw [HRR.out,lo_at (by rw [HM.out.2];exact hb.2) (by rw [HK.out];exact hb.1)];rfl
    have o2:decide ((k:Int)<(m:Int)-1)=true:=by simp;omega
    obtain ⟨h98,hlt⟩:=hb
    clear HA HK
    rcases h98 with rfl|rfl
    all_goals
     go_wp2_with (go_at_call 172;refine R.mono ?_;clear R;rintro e w' ⟨rfl,hw⟩;have q5:=Q5.out _ hw;have HB2:Hid (Below w.heap.size w w'):=HBel.out.trans (hw.mono HBel.out.size);clear hw)
     go_ret
     exact ⟨ret_bool fin.out.symm,HB2.out⟩
   ·have again:Hid (∀j,j<k+1→j+1<m→¬(ts.getD j 0=9∨ts.getD j 0=8)):=by
     intro j hj hjm
     by_cases hjk:j<k
     ·exact HA.out j hjk hjm
     ·have:j=k:=by omega
      subst this
      rw [HK.out]
      exact fun h=>hb ⟨h,hjm⟩
    clear HA HK
    by_cases h9:kd=9
    ·subst h9
     have o2:decide ((k:Int)<(m:Int)-1)=false:=by simp;omega
     clear hb
     go_wp2_with (go_at_call 172;refine R.mono ?_;clear R;rintro e w' ⟨rfl,hw⟩;have q5:=Q5.out _ hw;have HB2:Hid (Below w.heap.size w w'):=HBel.out.trans (hw.mono HBel.out.size);clear hw)
     go_roundw
     case rel=>exact ⟨k+1,by omega,by go_num,again.out,HB2.out⟩
     case measure=>simp [intOf];omega
    ·have o9:(kd==9)=false:=by simp;exact h9
     by_cases h8:kd=8
     ·subst h8
      have o2:decide ((k:Int)<(m:Int)-1)=false:=by simp;omega
      clear hb h9
      go_wp2_with (go_at_call 172;refine R.mono ?_;clear R;rintro e w' ⟨rfl,hw⟩;have q5:=Q5.out _ hw;have HB2:Hid (Below w.heap.size w w'):=HBel.out.trans (hw.mono HBel.out.size);clear hw)
      go_roundw
      case rel=>exact ⟨k+1,by omega,by go_num,again.out,HB2.out⟩
      case measure=>simp [intOf];omega
     ·have o8:(kd==8)=false:=by simp;exact h8
      clear hb h9 h8
      go_wp2_with (go_at_call 172;refine R.mono ?_;clear R;rintro e w' ⟨rfl,hw⟩;have HB2:Hid (Below w.heap.size w w'):=HBel.out.trans (hw.mono HBel.out.size);clear hw)
      go_roundw
      case rel=>exact ⟨k+1,by omega,by go_num,again.out,HB2.out⟩
      case measure=>simp [intOf];omega
  ·have hkq2:k=m:=by omega
   subst hkq2
   have q5:=(HN.out.below hbel).c5
   have HBel:Hid (Below w.heap.size w wr):=hbel
   have fin:Hid (rr=(nb&&ta)):=by show _=_;rw [HRR.out,lastOnly_iff.2 (fun j hj=>HA.out j (by rw [HM.out.2] at hj;omega) (by rw [HM.out.2] at hj;exact hj))];rfl
   clear hbel c5 HA
   go_wp2_with fail
   refine (P.out wr HBel.out).mono ?_
   rintro e w' ⟨rfl,hw⟩
   replace hw:=hw.symm
   subst hw
   clear P
   cases nb with
   |false =>
    go_wp2_with fail
    go_ret
    exact ⟨ret_bool (by rw [fin.out];rfl),HBel.out⟩
   |true =>
    go_wp2_with fail
    refine (TA.out wr HBel.out).mono ?_
    rintro e w2 ⟨rfl,hw2⟩
    have HB2:Hid (Below w.heap.size w w2):=HBel.out.trans (hw2.mono HBel.out.size)
    clear hw2 TA
    go_wp2_with fail
    go_ret
    exact ⟨ret_bool (by rw [fin.out];simp),HB2.out⟩
end vt
end Go.Proofs.YtkmiagkehcflnaaGreatDoor
