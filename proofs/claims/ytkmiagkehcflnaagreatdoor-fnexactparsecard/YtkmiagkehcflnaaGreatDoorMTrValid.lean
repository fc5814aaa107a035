import Derived.Test.YtkmiagkehcflnaaGreatDoorMTrLc
import Derived.Test.YtkmiagkehcflnaaGreatDoorMVtGoodB
set_option maxRecDepth 100000
set_option maxHeartbeats 8000000
namespace Go.Proofs.YtkmiagkehcflnaaGreatDoor
namespace vt
open Go.RowKit bts nod lex
def Fine (l:List Nd):Prop:=∀i,i<l.length→(l.getD i nd0).text.length+sizeSS (l.getD i nd0).names≤1048576
theorem l3good_any (b off n cap:Nat) (l:List Nd) (hl:l.length=n) (hn:n≤6000) (hsz:Fine l):∀(d:Nat),d≤200→∀(i:Nat) (lp:Bool) (w:World),RdN w (some ⟨b,off,none⟩) l→(∃e,endAt l d i=some e) →
  Calls Tryz.prog 35 #[.slice (some ⟨b,off,none⟩) n cap,.int .i64 i,.bool lp] w fun r w'=>r=.returned (.bool (good l d i lp))∧Below w.heap.size w w':=by
 intro d
 induction d with
 |zero=>rintro _ i lp w _ ⟨e,he⟩;cases he
 |succ d ih =>
  rintro hd i lp w hr ⟨e,hE⟩
  obtain ⟨⟨hin,hct0,hct1⟩,_⟩:=endAt_step hE
  have hs:=hsz i hin
  obtain ⟨b',off',ut,un,e1,c0,c1,c2,c3,c4,ht,hnm⟩:=hr i hin
  simp only [Option.some.injEq,Addr.mk.injEq,and_true] at e1
  obtain ⟨rfl,rfl⟩:=e1
  have IH:Hid (∀(x:Nat) (lp:Bool) (W:World),RdN W (some ⟨b,off,none⟩) l→(∃e,endAt l d x=some e)→Calls Tryz.prog 35 #[.slice (some ⟨b,off,none⟩) n cap,.int .i64 x,.bool lp] W fun r w'=>r=.returned (.bool (good l d x lp))∧Below W.heap.size W w') :=
   fun x lp W h1 h2=>ih (by omega) x lp W h1 h2
  rw [good]
  have hcn:cnt l i=(l.getD i nd0).count:=rfl
  have hkn:knd l i=(l.getD i nd0).kind:=rfl
  rw [hkn]
  rw [hcn] at hct0 hct1 ⊢
  rw [hl] at hin hct1
  have ht2:=ht
  have hn2:=hnm
  obtain ⟨at_,ca,rfl,_,_,_⟩:=ht2
  obtain ⟨an,cn,rfl,_,_⟩:=hn2
  have CS:Hid (∀W,Calls Tryz.prog 65 #[.agg #[.int .i64 (l.getD i nd0).kind,.int .i64 (l.getD i nd0).n,.slice at_ (l.getD i nd0).text.length ca,.slice an (l.getD i nd0).names.length cn,.int .i64 (l.getD i nd0).count]] W fun x w'=>x=.returned (.string (shape (l.getD i nd0).kind (l.getD i nd0).n (l.getD i nd0).count))∧Below W.heap.size W w'):=fun W=>l3shape_any _ _ _ _ _ W (by omega) (by omega)
  have CF:Hid (∀W,Below w.heap.size w W→Calls Tryz.prog 66 #[.agg #[.int .i64 (l.getD i nd0).kind,.int .i64 (l.getD i nd0).n,.slice at_ (l.getD i nd0).text.length ca,.slice an (l.getD i nd0).names.length cn,.int .i64 (l.getD i nd0).count]] W fun e w'=>e=.returned (.bool (fieldsB (l.getD i nd0).kind (l.getD i nd0).n (l.getD i nd0).text (l.getD i nd0).names))∧Below W.heap.size W w'):=fun W hW=>l3fields_any _ _ _ _ _ _ _ W (ht.below hW) (hnm.below hW) hs
  clear ht hnm hs hkn
  generalize hdd:l.getD i nd0=dd at c0 c1 c2 c3 c4 CS CF hct0 hct1 hcn ⊢
  obtain ⟨kd,nn,tx,nms,ct⟩:=dd
  simp only at c0 c1 c2 c3 c4 CS CF hct0 hct1 hcn ⊢
  clear hdd
  have hct6:ct≤6000:=by omega
  by_cases h0:kd<0
  ·rw [show headOk kd nn tx nms ct lp=false by unfold headOk;rw [decide_eq_false (show ¬0≤kd by omega)];rfl]
   exact bad_neg n cap b off i _ ca _ cn at_ an kd nn ct lp w hin hn hct0 hct6 c0 c1 c2 c3 c4 CS h0
  have h0':0≤kd:=by omega
  by_cases h26:26<kd
  ·rw [show headOk kd nn tx nms ct lp=false by unfold headOk;rw [decide_eq_false (show ¬kd≤26 by omega)];simp]
   exact bad_big n cap b off i _ ca _ cn at_ an kd nn ct lp w hin hn hct0 hct6 c0 c1 c2 c3 c4 CS h26
  have h26':kd≤26:=by omega
  cases hf:fieldsB kd nn tx nms with
  |false =>
   rw [show headOk kd nn tx nms ct lp=false by unfold headOk;rw [hf];simp]
   exact bad_fields n cap b off i _ ca _ cn at_ an kd nn ct lp tx nms w hin hn hct0 hct6 c0 c1 c2 c3 c4 CS CF h0' h26' hf
  |true =>
   by_cases hsz2:((shape kd nn ct).size:Int)=ct
   ·cases hq:((shape kd nn ct).toList==[63]) with
    |true =>
     rw [show headOk kd nn tx nms ct lp=false by unfold headOk;rw [hq];simp]
     exact bad_shape n cap b off i _ ca _ cn at_ an kd nn ct lp tx nms w hin hn hct0 hct6 c0 c1 c2 c3 c4 CS CF h0' h26' hf hsz2 hq
    |false =>
     have hH:headOk kd nn tx nms ct lp=(!(kd==8) || lp):=by unfold headOk;rw [hf,hq,decide_eq_true h0',decide_eq_true h26',decide_eq_true hsz2];rfl
     rw [hH]
     by_cases k8:kd=8
     ·subst k8
      cases lp with
      |false=>exact bad_break n cap b off i _ ca _ cn at_ an nn ct false tx nms w hin hn hct0 hct6 c0 c1 c2 c3 c4 CS CF rfl hf hsz2 hq
      |true=>exact goodX n cap b off i _ ca _ cn at_ an 8 nn ct true tx nms w hin hn hct0 hct6 c0 c1 c2 c3 c4 CS CF h0' h26' true (.inr (.inr (.inr (.inr (.inr ⟨rfl,rfl,rfl⟩))))) hf hsz2 hq l d e hl hr hE hd hcn IH
     rw [show (!(kd==8) || lp)=true by simp [k8],Bool.true_and]
     by_cases k4:kd=4
     ·subst k4;exact goodX n cap b off i _ ca _ cn at_ an 4 nn ct lp tx nms w hin hn hct0 hct6 c0 c1 c2 c3 c4 CS CF h0' h26' true (.inr (.inl ⟨rfl,rfl⟩)) hf hsz2 hq l d e hl hr hE hd hcn IH
     by_cases k5:kd=5
     ·subst k5;exact goodX n cap b off i _ ca _ cn at_ an 5 nn ct lp tx nms w hin hn hct0 hct6 c0 c1 c2 c3 c4 CS CF h0' h26' true (.inr (.inr (.inl ⟨rfl,rfl⟩))) hf hsz2 hq l d e hl hr hE hd hcn IH
     by_cases k7:kd=7
     ·subst k7;exact goodX n cap b off i _ ca _ cn at_ an 7 nn ct lp tx nms w hin hn hct0 hct6 c0 c1 c2 c3 c4 CS CF h0' h26' true (.inr (.inr (.inr (.inl ⟨rfl,rfl⟩)))) hf hsz2 hq l d e hl hr hE hd hcn IH
     by_cases k19:kd=19
     ·subst k19;exact goodX n cap b off i _ ca _ cn at_ an 19 nn ct lp tx nms w hin hn hct0 hct6 c0 c1 c2 c3 c4 CS CF h0' h26' false (.inr (.inr (.inr (.inr (.inl ⟨rfl,rfl⟩))))) hf hsz2 hq l d e hl hr hE hd hcn IH
     have hinn:innerOf kd lp=lp:=by unfold innerOf;rw [if_neg (by omega),if_neg k19]
     rw [hinn]
     by_cases k0:kd=0
     ·subst k0;exact good0 n cap b off i _ ca _ cn at_ an nn ct lp tx nms w hin hn hct0 hct6 c0 c1 c2 c3 c4 CS CF hf hsz2 hq l d e hl hr hE hd hcn IH
     rw [show (kd==0)=false by simp;exact k0]
     exact goodX n cap b off i _ ca _ cn at_ an kd nn ct lp tx nms w hin hn hct0 hct6 c0 c1 c2 c3 c4 CS CF h0' h26' lp (.inl ⟨rfl,k8,k4,k5,k7,k19,k0⟩) hf hsz2 hq l d e hl hr hE hd hcn IH
   ·rw [show headOk kd nn tx nms ct lp=false by unfold headOk;rw [decide_eq_false hsz2];simp]
    exact bad_size n cap b off i _ ca _ cn at_ an kd nn ct lp tx nms w hin hn hct0 hct6 c0 c1 c2 c3 c4 CS CF h0' h26' hf hsz2
def valid (l:List Nd):Bool:=decide (1≤l.length)&&(decide (l.length≤6000)&&((knd l 0==0)&&(decide (endAt l 200 0=some l.length)&&good l 200 0 false)))
theorem specValid_fine (ao:Option Addr) (n cap:Nat) (l:List Nd) (w:World) (hl:l.length=n) (hr:RdN w ao l) (hnb:n≤1048576) (hsz:Fine l) :
  Calls Tryz.prog 15 #[.slice ao n cap] w fun r w'=>r=.returned (.bool (valid l))∧Below w.heap.size w w':=by
 by_cases h1:1≤n
 ·by_cases h2:n≤6000
  ·obtain ⟨b,off,_,_,rfl,c0,_⟩:=hr 0 (by omega)
   have hk:(l.getD 0 nd0).kind=knd l 0:=rfl
   rw [hk] at c0
   simp only [Nat.zero_mul,Nat.add_zero] at c0
   clear hk
   have d1:decide ((n:Int)<1)=false:=by simp;omega
   have d2:decide ((6000:Int)<(n:Int))=false:=by simp;omega
   by_cases h3:knd l 0=0
   ·rw [h3] at c0
    have CE:=l3end_any (some ⟨b,off,none⟩) n cap l w hl hr h2 200 0 (by omega) (by omega)
    by_cases h4:endAt l 200 0=some n
    ·have CG:=l3good_any b off n cap l hl h2 hsz 200 (by omega) 0 false w hr ⟨_,h4⟩
     have HV:Hid (valid l=good l 200 0 false):=by show _=_;unfold valid;rw [hl,decide_eq_true h1,decide_eq_true h2,h3,decide_eq_true h4];rfl
     rw [h4] at CE
     generalize good l 200 0 false=gd at CG HV
     clear hr hl hsz h3 h4
     unfold endI at CE
     go_enter Tryz.func15,Tryz.ntmps15
     go_wp2_with fail
     refine CE.mono ?_
     rintro r w' ⟨rfl,hw⟩
     replace hw:=hw.symm
     subst hw
     clear CE
     go_wp2_with fail
     refine CG.mono ?_
     rintro r w1 ⟨rfl,hb1⟩
     clear CG
     go_wp2_with fail
     go_ret
     exact ⟨ret_bool (by rw [HV.out]),hb1⟩
    ·have HV:Hid (valid l=false):=by show _=_;unfold valid;rw [hl,decide_eq_false h4];simp
     have hne:(endI (endAt l 200 0)==(n:Int))=false:=by
      cases hE:endAt l 200 0 with
      |none=>simp [endI]
      |some m =>
       have:¬m=n:=fun e=>h4 (by rw [hE,e])
       simp [endI];omega
     generalize endI (endAt l 200 0)=z at CE hne
     clear hr hl hsz h3 h4
     go_enter Tryz.func15,Tryz.ntmps15
     go_wp2_with fail
     refine CE.mono ?_
     rintro r w' ⟨rfl,hw⟩
     replace hw:=hw.symm
     subst hw
     clear CE
     go_wp2_with fail
     go_ret
     exact ⟨ret_bool (by rw [HV.out]),Below.refl _ _⟩
   ·have HV:Hid (valid l=false):=by show _=_;unfold valid;rw [show (knd l 0==0)=false by simp;exact h3];simp
    have hne:(knd l 0 != 0)=true:=bne_iff_ne.mpr h3
    generalize knd l 0=kz at c0 hne h3
    clear hr hl hsz
    go_enter Tryz.func15,Tryz.ntmps15
    go_wp2_with fail
    go_ret
    exact ⟨ret_bool (by rw [HV.out]),Below.refl _ _⟩
  ·have HV:Hid (valid l=false):=by show _=_;unfold valid;rw [hl,decide_eq_false h2];simp
   have d1:decide ((n:Int)<1)=false:=by simp;omega
   have d2:decide ((6000:Int)<(n:Int))=true:=by simp;omega
   clear hr hl hsz
   go_enter Tryz.func15,Tryz.ntmps15
   go_wp2_with fail
   go_ret
   exact ⟨ret_bool (by rw [HV.out]),Below.refl _ _⟩
 ·have HV:Hid (valid l=false):=by show _=_;unfold valid;rw [hl,decide_eq_false h1];rfl
  have hn0:n=0:=by omega
  subst hn0
  clear hr hl hsz
  go_enter Tryz.func15,Tryz.ntmps15
  go_wp2_with fail
  go_ret
  exact ⟨ret_bool (by rw [HV.out]),Below.refl _ _⟩
theorem letAt_app_l {a b:ByteArray} {k:Nat} (h:k<a.size):letAt (a++b) k=letAt a k:=by
 rw [letAt_in h,letAt_in (by rw [ByteArray.size_append];omega),ByteArray.getElem_append_left h]
theorem letAt_app_r {a b:ByteArray} {k:Nat} (h:a.size≤k) (h2:k<a.size+b.size):letAt (a++b) k=letAt b (k-a.size):=by
 rw [letAt_in (show k-a.size<b.size by omega),letAt_in (by rw [ByteArray.size_append];omega),ByteArray.getElem_append_right h]
theorem letAt_rep1 {c:UInt8} {n:Nat}:∀{k:Nat},k<n→letAt (rep {data:=#[c]} n) k=c.toNat:=by
 induction n with
 |zero=>intro k h;omega
 |succ n ih =>
  intro k h
  have hs:(rep {data:=#[c]} n).size=n:=by rw [rep_size];show n*1=n;omega
  rw [rep]
  by_cases hk:k<n
  ·rw [letAt_app_l (by omega)];exact ih hk
  ·have:k=n:=by omega
   subst this
   rw [letAt_app_r (by omega) (by rw [hs];show k<k+1;omega),hs,Nat.sub_self]
   rfl
theorem letAt_rep2 {n:Nat}:∀{k:Nat},k<n*2→letAt (rep {data:=#[101,98]} n) k=if k % 2=1 then 98 else 101:=by
 induction n with
 |zero=>intro k h;omega
 |succ n ih =>
  intro k h
  have hs:(rep {data:=#[101,98]} n).size=n*2:=by rw [rep_size];rfl
  rw [rep]
  by_cases hk:k<n*2
  ·rw [letAt_app_l (by omega)];exact ih hk
  ·rw [letAt_app_r (by omega) (by rw [hs];show k<n*2+2;omega),hs]
   have:k=n*2∨k=n*2+1:=by omega
   rcases this with rfl|rfl
   ·rw [Nat.sub_self,if_neg (by omega)];rfl
   ·rw [show n*2+1-n*2=1 by omega,if_pos (by omega)];rfl
theorem loop_eq (bs:ByteArray):∀(n i:Nat) (r:List UInt8),bs.size-i=n→ByteArray.toList.loop bs i r=r.reverse++bs.data.toList.drop i:=by
 intro n
 induction n with
 |zero =>
  intro i r h
  rw [ByteArray.toList.loop,if_neg (by omega),List.drop_eq_nil_of_le (by show bs.size≤i;omega),List.append_nil]
 |succ n ih =>
  intro i r h
  have hi:i<bs.data.toList.length:=by show i<bs.size;omega
  rw [ByteArray.toList.loop,if_pos (by omega),ih _ _ (by omega),List.drop_eq_getElem_cons hi]
  simp only [List.reverse_cons,List.append_assoc,List.singleton_append,List.append_cancel_left_eq,List.cons.injEq,and_true]
  have hi2:i<bs.data.size:=hi
  simp only [ByteArray.get!]
  simpa using getElem!_pos bs.data i hi2
theorem toList_eq (bs:ByteArray):bs.toList=bs.data.toList:=by
 rw [ByteArray.toList,loop_eq bs _ 0 [] rfl];simp
theorem is63 {s:ByteArray} (h:(s.toList==[63])=true):s.size=1∧letAt s 0=63:=by
 rw [toList_eq,beq_iff_eq] at h
 obtain ⟨a⟩:=s
 obtain ⟨l⟩:=a
 simp only at h
 subst h
 exact ⟨rfl,rfl⟩
theorem no63 {s:ByteArray} (h:0<s.size→¬letAt s 0=63):(s.toList==[63])=false:=by
 rw [Bool.eq_false_iff]
 intro hc
 obtain ⟨a,b⟩:=is63 hc
 exact h (by omega) b
theorem fixed {S:ByteArray} {rs:List Nat} (hS:S.size=rs.length) (hq:(S.toList==[63])=false) (hp:∀k,k<rs.length→∀x,fits (letAt S k) x=takes (rs.getD k 0) x) (ks:List Int) :
  holds rs ks=true↔((S.size:Int)=(ks.length:Int)∧(S.toList==[63])=false∧∀k,k<ks.length→fits (letAt S k) (ks.getD k 0)=true):=by
 rw [holds_iff,hS]
 constructor
 ·rintro ⟨h1,h2⟩
  exact ⟨by omega,hq,fun k hk=>by rw [hp k (by omega)];exact h2 k hk⟩
 ·rintro ⟨h1,_,h2⟩
  exact ⟨by omega,fun k hk=>by rw [← hp k (by omega)];exact h2 k hk⟩
theorem repeated {c:UInt8} {r:Nat} (hc:¬c=63) (hp:∀x,fits c.toNat x=takes r x) (ks:List Int) :
  ks.all (takes r)=true↔(((rep {data:=#[c]} (ks.length:Int).toNat).size:Int)=(ks.length:Int)∧((rep {data:=#[c]} (ks.length:Int).toNat).toList==[63])=false∧∀k,k<ks.length→fits (letAt (rep {data:=#[c]} (ks.length:Int).toNat) k) (ks.getD k 0)=true):=by
 rw [Int.toNat_natCast,all_iff]
 have hs:(rep {data:=#[c]} ks.length).size=ks.length:=by rw [rep_size];show ks.length*1=ks.length;omega
 have h63:((rep {data:=#[c]} ks.length).toList==[63])=false:=no63 (fun h=>by
  rw [letAt_rep1 (by omega)]
  intro e
  apply hc
  apply UInt8.toNat_inj.1
  show c.toNat=63
  omega)
 constructor
 ·intro h
  exact ⟨by omega,h63,fun k hk=>by rw [letAt_rep1 hk,hp];exact h k hk⟩
 ·rintro ⟨_,_,h⟩ k hk
  have:=h k hk
  rwa [letAt_rep1 hk,hp] at this
theorem named_iff {kd nn:Int} {tx:List Int} {nms:List (List Int)} {lo hi:Nat} (h1:least kd=lo) (h2:most kd=hi) (h3:¬kd=15) (h4:¬kd=21) (h5:¬kd=2) (h6:¬kd=14):named nn tx nms lo hi=fieldsB kd nn tx nms:=by
 unfold named fieldsB textOk numOk
 rw [h1,h2,if_neg h4,decide_eq_false h3]
 have e5:(kd==2)=false:=by simp;exact h5
 have e6:(kd==14)=false:=by simp;exact h6
 rw [e5,e6,Bool.false_or,Bool.false_or,Bool.false_or]
 by_cases ht:tx.length=0
 ·rw [decide_eq_true ht,decide_eq_true (show tx.length≤5000 by omega)]
  cases nn==0 <;> cases decide (lo≤nms.length) <;> cases decide (nms.length≤hi) <;> cases nms.all isName <;> rfl
 ·rw [decide_eq_false ht];simp
def TableOk (kd nn:Int) (tx:List Int) (nms:List (List Int)) (ks:List Int):Prop :=
 fieldsB kd nn tx nms=true∧(((shape kd nn (ks.length:Int)).size:Int)=(ks.length:Int)∧((shape kd nn (ks.length:Int)).toList==[63])=false∧∀k,k<ks.length→fits (letAt (shape kd nn (ks.length:Int)) k) (ks.getD k 0)=true)∧(kd=0→∀k,k+1<ks.length→¬(ks.getD k 0=9∨ks.getD k 0=8))
theorem bad63 {ks:List Int}:¬(((({data:=#[63]}:ByteArray).size:Int)=(ks.length:Int))∧(({data:=#[63]}:ByteArray).toList==[63])=false∧∀k,k<ks.length→fits (letAt ({data:=#[63]}:ByteArray) k) (ks.getD k 0)=true):=by
 rintro ⟨_,h,_⟩
 rw [toList_eq] at h
 cases h
theorem tblFix {kd nn:Int} {tx:List Int} {nms:List (List Int)} {ks:List Int} {lo hi:Nat} {rs:List Nat} (S:ByteArray) (hsh:shape kd nn (ks.length:Int)=S) (h0:¬kd=0) (h1:least kd=lo) (h2:most kd=hi) (h3:¬kd=15) (h4:¬kd=21) (h5:¬kd=2) (h6:¬kd=14)
  (hS:S.size=rs.length) (hq:0<S.size→¬letAt S 0=63) (hp:∀k,k<rs.length→∀x,fits (letAt S k) x=takes (rs.getD k 0) x) :
  (named nn tx nms lo hi&&holds rs ks)=true↔TableOk kd nn tx nms ks:=by
 rw [Bool.and_eq_true,named_iff h1 h2 h3 h4 h5 h6,fixed hS (no63 hq) hp]
 unfold TableOk
 rw [hsh]
 exact ⟨fun h=>⟨h.1,h.2,fun e=>absurd e h0⟩,fun h=>⟨h.1,h.2.1⟩⟩
theorem two {P:Nat→Prop} (h0:P 0) (h1:P 1):∀k,k<2→P k:=by
 intro k hk
 have:k=0∨k=1:=by omega
 rcases this with rfl|rfl
 ·exact h0
 ·exact h1
theorem one {P:Nat→Prop} (h0:P 0):∀k,k<1→P k:=by
 intro k hk
 have:k=0:=by omega
 subst this
 exact h0
theorem zero {P:Nat→Prop}:∀k,k<0→P k:=fun k hk=>absurd hk (by omega)
theorem three {P:Nat→Prop} (h0:P 0) (h1:P 1) (h2:P 2):∀k,k<3→P k:=by
 intro k hk
 have:k=0∨k=1∨k=2:=by omega
 rcases this with rfl|rfl|rfl
 ·exact h0
 ·exact h1
 ·exact h2
theorem four {P:Nat→Prop} (h0:P 0) (h1:P 1) (h2:P 2) (h3:P 3):∀k,k<4→P k:=by
 intro k hk
 have:k=0∨k=1∨k=2∨k=3:=by omega
 rcases this with rfl|rfl|rfl|rfl
 ·exact h0
 ·exact h1
 ·exact h2
 ·exact h3
theorem tblMany {kd nn:Int} {tx:List Int} {nms:List (List Int)} {ks:List Int} {lo hi a b r:Nat} {c:UInt8} (h0:¬kd=0) (h1:least kd=lo) (h2:most kd=hi) (h3:¬kd=15) (h4:¬kd=21) (h5:¬kd=2) (h6:¬kd=14)
  (hsh:shape kd nn (ks.length:Int)=if a≤ks.length∧ks.length≤b then rep {data:=#[c]} (ks.length:Int).toNat else {data:=#[63]}) (hc:¬c=63) (hp:∀x,fits c.toNat x=takes r x) :
  (named nn tx nms lo hi&&takesAll r ks a b)=true↔TableOk kd nn tx nms ks:=by
 rw [Bool.and_eq_true,named_iff h1 h2 h3 h4 h5 h6]
 unfold TableOk takesAll
 rw [hsh,Bool.and_eq_true,Bool.and_eq_true,decide_eq_true_eq,decide_eq_true_eq,repeated hc hp]
 by_cases h:a≤ks.length∧ks.length≤b
 ·rw [if_pos h]
  exact ⟨fun x=>⟨x.1,x.2.2.2,fun e=>absurd e h0⟩,fun x=>⟨x.1,h.1,h.2,x.2.1⟩⟩
 ·rw [if_neg h]
  exact ⟨fun x=>absurd ⟨x.2.1,x.2.2.1⟩ h,fun x=>absurd x.2.1 bad63⟩
theorem tbl3 {nn:Int} {tx:List Int} {nms:List (List Int)} {ks:List Int}:fitsI 3 nn tx nms ks=true↔TableOk 3 nn tx nms ks :=
 tblFix (rs:=[0]) {data:=#[98]} rfl (by decide) rfl rfl (by decide) (by decide) (by decide) (by decide) rfl (fun _=>by decide) (one (fun _=>rfl))
theorem tbl4 {nn:Int} {tx:List Int} {nms:List (List Int)} {ks:List Int}:fitsI 4 nn tx nms ks=true↔TableOk 4 nn tx nms ks :=
 tblFix (rs:=[2,0]) {data:=#[101,98]} rfl (by decide) rfl rfl (by decide) (by decide) (by decide) (by decide) rfl (fun _=>by decide) (two (fun _=>rfl) (fun _=>rfl))
theorem tbl5 {nn:Int} {tx:List Int} {nms:List (List Int)} {ks:List Int}:fitsI 5 nn tx nms ks=true↔TableOk 5 nn tx nms ks :=
 tblFix (rs:=[0,2]) {data:=#[98,101]} rfl (by decide) rfl rfl (by decide) (by decide) (by decide) (by decide) rfl (fun _=>by decide) (two (fun _=>rfl) (fun _=>rfl))
theorem tbl8 {nn:Int} {tx:List Int} {nms:List (List Int)} {ks:List Int}:fitsI 8 nn tx nms ks=true↔TableOk 8 nn tx nms ks :=
 tblFix (rs:=[]) {data:=#[]} rfl (by decide) rfl rfl (by decide) (by decide) (by decide) (by decide) rfl (fun h=>absurd h (by decide)) zero
theorem tbl10 {nn:Int} {tx:List Int} {nms:List (List Int)} {ks:List Int}:fitsI 10 nn tx nms ks=true↔TableOk 10 nn tx nms ks :=
 tblFix (rs:=[4]) {data:=#[99]} rfl (by decide) rfl rfl (by decide) (by decide) (by decide) (by decide) rfl (fun _=>by decide) (one (fun _=>rfl))
theorem tbl11 {nn:Int} {tx:List Int} {nms:List (List Int)} {ks:List Int}:fitsI 11 nn tx nms ks=true↔TableOk 11 nn tx nms ks :=
 tblFix (rs:=[]) {data:=#[]} rfl (by decide) rfl rfl (by decide) (by decide) (by decide) (by decide) rfl (fun h=>absurd h (by decide)) zero
theorem tbl12 {nn:Int} {tx:List Int} {nms:List (List Int)} {ks:List Int}:fitsI 12 nn tx nms ks=true↔TableOk 12 nn tx nms ks :=
 tblFix (rs:=[]) {data:=#[]} rfl (by decide) rfl rfl (by decide) (by decide) (by decide) (by decide) rfl (fun h=>absurd h (by decide)) zero
theorem tbl13 {nn:Int} {tx:List Int} {nms:List (List Int)} {ks:List Int}:fitsI 13 nn tx nms ks=true↔TableOk 13 nn tx nms ks :=
 tblFix (rs:=[]) {data:=#[]} rfl (by decide) rfl rfl (by decide) (by decide) (by decide) (by decide) rfl (fun h=>absurd h (by decide)) zero
theorem tbl16 {nn:Int} {tx:List Int} {nms:List (List Int)} {ks:List Int}:fitsI 16 nn tx nms ks=true↔TableOk 16 nn tx nms ks :=
 tblFix (rs:=[]) {data:=#[]} rfl (by decide) rfl rfl (by decide) (by decide) (by decide) (by decide) rfl (fun h=>absurd h (by decide)) zero
theorem tbl17 {nn:Int} {tx:List Int} {nms:List (List Int)} {ks:List Int}:fitsI 17 nn tx nms ks=true↔TableOk 17 nn tx nms ks :=
 tblFix (rs:=[2,2]) {data:=#[101,101]} rfl (by decide) rfl rfl (by decide) (by decide) (by decide) (by decide) rfl (fun _=>by decide) (two (fun _=>rfl) (fun _=>rfl))
theorem tbl19 {nn:Int} {tx:List Int} {nms:List (List Int)} {ks:List Int}:fitsI 19 nn tx nms ks=true↔TableOk 19 nn tx nms ks :=
 tblFix (rs:=[0]) {data:=#[98]} rfl (by decide) rfl rfl (by decide) (by decide) (by decide) (by decide) rfl (fun _=>by decide) (one (fun _=>rfl))
theorem tbl24 {nn:Int} {tx:List Int} {nms:List (List Int)} {ks:List Int}:fitsI 24 nn tx nms ks=true↔TableOk 24 nn tx nms ks :=
 tblFix (rs:=[2]) {data:=#[101]} rfl (by decide) rfl rfl (by decide) (by decide) (by decide) (by decide) rfl (fun _=>by decide) (one (fun _=>rfl))
theorem tbl25 {nn:Int} {tx:List Int} {nms:List (List Int)} {ks:List Int}:fitsI 25 nn tx nms ks=true↔TableOk 25 nn tx nms ks :=
 tblFix (rs:=[2]) {data:=#[101]} rfl (by decide) rfl rfl (by decide) (by decide) (by decide) (by decide) rfl (fun _=>by decide) (one (fun _=>rfl))
theorem tbl26 {nn:Int} {tx:List Int} {nms:List (List Int)} {ks:List Int}:fitsI 26 nn tx nms ks=true↔TableOk 26 nn tx nms ks :=
 tblFix (rs:=[5]) {data:=#[102]} rfl (by decide) rfl rfl (by decide) (by decide) (by decide) (by decide) rfl (fun _=>by decide) (one (fun _=>rfl))
theorem tbl1 {nn:Int} {tx:List Int} {nms:List (List Int)} {ks:List Int}:fitsI 1 nn tx nms ks=true↔TableOk 1 nn tx nms ks:=by
 refine tblMany (by decide) rfl rfl (by decide) (by decide) (by decide) (by decide) ?_ (c:=101) (by decide) (fun _=>rfl)
 show (if 50<(ks.length:Int) then _ else _)=_
 by_cases h:ks.length≤50
 ·rw [if_neg (by omega),if_pos ⟨by omega,h⟩]
 ·rw [if_pos (by omega),if_neg (by omega)]
theorem tbl9 {nn:Int} {tx:List Int} {nms:List (List Int)} {ks:List Int}:fitsI 9 nn tx nms ks=true↔TableOk 9 nn tx nms ks:=by
 refine tblMany (by decide) rfl rfl (by decide) (by decide) (by decide) (by decide) ?_ (c:=101) (by decide) (fun _=>rfl)
 show (if 50<(ks.length:Int) then _ else _)=_
 by_cases h:ks.length≤50
 ·rw [if_neg (by omega),if_pos ⟨by omega,h⟩]
 ·rw [if_pos (by omega),if_neg (by omega)]
theorem tbl18 {nn:Int} {tx:List Int} {nms:List (List Int)} {ks:List Int}:fitsI 18 nn tx nms ks=true↔TableOk 18 nn tx nms ks:=by
 refine tblMany (by decide) rfl rfl (by decide) (by decide) (by decide) (by decide) ?_ (c:=101) (by decide) (fun _=>rfl)
 show (if (ks.length:Int)<1∨51<(ks.length:Int) then _ else _)=_
 by_cases h:1≤ks.length∧ks.length≤51
 ·rw [if_neg (by omega),if_pos h]
 ·rw [if_pos (by omega),if_neg h]
theorem tbl0 {nn:Int} {tx:List Int} {nms:List (List Int)} {ks:List Int} (hk:ks.length≤6000):fitsI 0 nn tx nms ks=true↔TableOk 0 nn tx nms ks:=by
 show (lastOnly ks&&(named nn tx nms 0 0&&takesAll 1 ks 0 6000))=true↔_
 rw [Bool.and_eq_true,Bool.and_eq_true,named_iff (lo:=0) (hi:=0) (kd:=0) rfl rfl (by decide) (by decide) (by decide) (by decide)]
 unfold TableOk takesAll
 rw [show shape 0 nn (ks.length:Int)=rep {data:=#[115]} (ks.length:Int).toNat from rfl,Bool.and_eq_true,Bool.and_eq_true,decide_eq_true_eq,decide_eq_true_eq,repeated (c:=115) (by decide) (fun _=>rfl),lastOnly_iff]
 exact ⟨fun x=>⟨x.2.1,x.2.2.2.2,fun _=>x.1⟩,fun x=>⟨x.2.2 rfl,x.1,by omega,by omega,x.2.1⟩⟩
theorem tbl20 {nn:Int} {tx:List Int} {nms:List (List Int)} {ks:List Int} (hk:ks.length≤6000):fitsI 20 nn tx nms ks=true↔TableOk 20 nn tx nms ks:=by
 show (named nn tx nms 0 0&&(decide (ks.length % 2=0)&&takesAll 2 ks 0 6000))=true↔_
 rw [Bool.and_eq_true,Bool.and_eq_true,named_iff (lo:=0) (hi:=0) (kd:=20) rfl rfl (by decide) (by decide) (by decide) (by decide)]
 unfold TableOk takesAll
 rw [show shape 20 nn (ks.length:Int)=(if ¬(ks.length:Int) % 2=0 then {data:=#[63]} else rep {data:=#[101]} (ks.length:Int).toNat) from rfl,Bool.and_eq_true,Bool.and_eq_true,decide_eq_true_eq,decide_eq_true_eq,decide_eq_true_eq,repeated (c:=101) (by decide) (fun _=>rfl)]
 by_cases h:ks.length % 2=0
 ·rw [if_neg (by omega)]
  exact ⟨fun x=>⟨x.1,x.2.2.2.2,fun e=>absurd e (by decide)⟩,fun x=>⟨x.1,h,by omega,by omega,x.2.1⟩⟩
 ·rw [if_pos (by omega)]
  exact ⟨fun x=>absurd x.2.1 h,fun x=>absurd x.2.1 bad63⟩
theorem tbl7 {nn:Int} {tx:List Int} {nms:List (List Int)} {ks:List Int}:fitsI 7 nn tx nms ks=true↔TableOk 7 nn tx nms ks:=by
 show (named nn tx nms 1 1&&(holds [2,2,0] ks || holds [2,2,2,0] ks))=true↔_
 by_cases h:ks.length=4
 ·have e:holds [2,2,0] ks=false:=by
   rw [Bool.eq_false_iff];intro hc;have:=(holds_iff.1 hc).1;simp at this;omega
  rw [e,Bool.false_or]
  refine tblFix (rs:=[2,2,2,0]) {data:=#[101,101,101,98]} ?_ (by decide) rfl rfl (by decide) (by decide) (by decide) (by decide) rfl (fun _=>by decide) (four (fun _=>rfl) (fun _=>rfl) (fun _=>rfl) (fun _=>rfl))
  rw [h];rfl
 ·have e:holds [2,2,2,0] ks=false:=by
   rw [Bool.eq_false_iff];intro hc;have:=(holds_iff.1 hc).1;simp at this;omega
  rw [e,Bool.or_false]
  refine tblFix (rs:=[2,2,0]) {data:=#[101,101,98]} ?_ (by decide) rfl rfl (by decide) (by decide) (by decide) (by decide) rfl (fun _=>by decide) (three (fun _=>rfl) (fun _=>rfl) (fun _=>rfl))
  show (if (ks.length:Int)=4 then _ else _)=_
  rw [if_neg (by omega)]
theorem fields_pair {kd nn:Int} {tx:List Int} {nms:List (List Int)} (h:kd=22∨kd=23):numbered nn tx nms 0 0=fieldsB kd nn tx nms:=by
 rw [← named_iff (lo:=0) (hi:=0) (kd:=kd) (by unfold least;rw [if_neg (by omega)]) (by unfold most;rw [if_neg (by omega),if_neg (by omega),if_neg (by omega)]) (by omega) (by omega) (by omega) (by omega)]
 rw [Bool.eq_iff_iff]
 unfold numbered named
 simp only [Bool.and_eq_true,decide_eq_true_eq,beq_iff_eq]
 constructor
 ·rintro ⟨a,b,c,d⟩
  have:nms=[]:=List.length_eq_zero_iff.1 d
  subst this
  exact ⟨by omega,c,by simp,by simp,rfl⟩
 ·rintro ⟨a,b,c,d,_⟩
  exact ⟨by omega,by omega,b,by omega⟩
theorem fields21 {nn:Int} {tx:List Int} {nms:List (List Int)}:numbered nn tx nms 0 11=fieldsB 21 nn tx nms:=by
 rw [Bool.eq_iff_iff]
 unfold numbered fieldsB textOk numOk
 rw [show least 21=0 from rfl,show most 21=0 from rfl]
 simp only [Bool.and_eq_true,Bool.or_eq_true,decide_eq_true_eq,if_true]
 constructor
 ·rintro ⟨a,b,c,d⟩
  have:nms=[]:=List.length_eq_zero_iff.1 d
  subst this
  exact ⟨by simp,by simp,rfl,⟨.inr c,by omega⟩,a,b⟩
 ·rintro ⟨a,b,c,⟨d|d,_⟩,e,f⟩
  ·exact absurd d (by decide)
  ·exact ⟨e,f,d,by omega⟩
theorem tblPair {kd nn:Int} {tx:List Int} {nms:List (List Int)} {ks:List Int} {hi:Int} (h:kd=21∨kd=22∨kd=23) (hf:numbered nn tx nms 0 hi=fieldsB kd nn tx nms):(numbered nn tx nms 0 hi&&holds [2,2] ks)=true↔TableOk kd nn tx nms ks:=by
 have hsh:shape kd nn (ks.length:Int)={data:=#[101,101]}:=by rcases h with rfl|rfl|rfl <;> rfl
 rw [Bool.and_eq_true,hf,fixed (S:={data:=#[101,101]}) (rs:=[2,2]) rfl (no63 (fun _=>by decide)) (two (fun _=>rfl) (fun _=>rfl))]
 unfold TableOk
 rw [hsh]
 exact ⟨fun x=>⟨x.1,x.2,fun e=>absurd e (by omega)⟩,fun x=>⟨x.1,x.2.1⟩⟩
theorem tbl21 {nn:Int} {tx:List Int} {nms:List (List Int)} {ks:List Int}:fitsI 21 nn tx nms ks=true↔TableOk 21 nn tx nms ks:=tblPair (.inl rfl) fields21
theorem tbl22 {nn:Int} {tx:List Int} {nms:List (List Int)} {ks:List Int}:fitsI 22 nn tx nms ks=true↔TableOk 22 nn tx nms ks:=tblPair (.inr (.inl rfl)) (fields_pair (.inl rfl))
theorem tbl23 {nn:Int} {tx:List Int} {nms:List (List Int)} {ks:List Int}:fitsI 23 nn tx nms ks=true↔TableOk 23 nn tx nms ks:=tblPair (.inr (.inr rfl)) (fields_pair (.inr rfl))
theorem tblLeaf {kd nn:Int} {tx:List Int} {nms:List (List Int)} {ks:List Int} {b:Bool} (h:kd=14∨kd=15) (hf:b=fieldsB kd nn tx nms):(b&&holds [] ks)=true↔TableOk kd nn tx nms ks:=by
 have hsh:shape kd nn (ks.length:Int)={data:=#[]}:=by rcases h with rfl|rfl <;> rfl
 rw [Bool.and_eq_true,hf,fixed (S:={data:=#[]}) (rs:=[]) rfl (no63 (fun h=>absurd h (by decide))) zero]
 unfold TableOk
 rw [hsh]
 exact ⟨fun x=>⟨x.1,x.2,fun e=>absurd e (by omega)⟩,fun x=>⟨x.1,x.2.1⟩⟩
theorem tbl14 {nn:Int} {tx:List Int} {nms:List (List Int)} {ks:List Int}:fitsI 14 nn tx nms ks=true↔TableOk 14 nn tx nms ks:=by
 show (decide (tx.length=0)&&(decide (nms.length=0)&&holds [] ks))=true↔_
 rw [← Bool.and_assoc]
 refine tblLeaf (.inl rfl) ?_
 rw [Bool.eq_iff_iff]
 unfold fieldsB textOk numOk
 rw [show least 14=0 from rfl,show most 14=0 from rfl]
 simp only [Bool.and_eq_true,Bool.or_eq_true,decide_eq_true_eq]
 constructor
 ·rintro ⟨c,d⟩
  have:nms=[]:=List.length_eq_zero_iff.1 d
  subst this
  exact ⟨by simp,by simp,rfl,⟨.inr c,by omega⟩,rfl⟩
 ·rintro ⟨a,b,c,⟨d|d,_⟩,e⟩
  ·exact absurd d (by decide)
  ·exact ⟨d,by omega⟩
theorem tbl15 {nn:Int} {tx:List Int} {nms:List (List Int)} {ks:List Int}:fitsI 15 nn tx nms ks=true↔TableOk 15 nn tx nms ks:=by
 show ((nn==0)&&(decide (tx.length≤5000)&&(decide (nms.length=0)&&holds [] ks)))=true↔_
 rw [← Bool.and_assoc,← Bool.and_assoc]
 refine tblLeaf (.inr rfl) ?_
 rw [Bool.eq_iff_iff]
 unfold fieldsB textOk numOk
 rw [show least 15=0 from rfl,show most 15=0 from rfl,if_neg (by decide)]
 simp only [Bool.and_eq_true,Bool.or_eq_true,decide_eq_true_eq,beq_iff_eq]
 constructor
 ·rintro ⟨⟨b,c⟩,d⟩
  have:nms=[]:=List.length_eq_zero_iff.1 d
  subst this
  exact ⟨by simp,by simp,rfl,⟨.inl trivial,c⟩,.inr (.inr b)⟩
 ·rintro ⟨a,b,c,⟨_,d⟩,e|e|e⟩
  ·exact absurd e (by decide)
  ·exact absurd e (by decide)
  ·exact ⟨⟨e,d⟩,by omega⟩
theorem tbl2 {nn:Int} {tx:List Int} {nms:List (List Int)} {ks:List Int}:fitsI 2 nn tx nms ks=true↔TableOk 2 nn tx nms ks:=by
 show (numbered nn tx nms 1 50&&(decide (nn≤ks.length)&&(takesAll 3 (ks.take nn.toNat) 1 50&&takesAll 2 (ks.drop nn.toNat) 1 50)))=true↔_
 unfold TableOk
 rw [show shape 2 nn (ks.length:Int)=(if nn<1∨50<nn∨(ks.length:Int)≤nn∨nn+50<(ks.length:Int) then {data:=#[63]} else rep {data:=#[116]} nn.toNat++rep {data:=#[101]} ((ks.length:Int)-nn).toNat) from rfl]
 by_cases h:nn<1∨50<nn∨(ks.length:Int)≤nn∨nn+50<(ks.length:Int)
 ·rw [if_pos h]
  constructor
  ·intro x
   unfold numbered takesAll at x
   simp only [Bool.and_eq_true,decide_eq_true_eq,List.length_take,List.length_drop] at x
   omega
  ·exact fun x=>absurd x.2.1 bad63
 ·rw [if_neg h]
  obtain ⟨a,rfl⟩:∃a:Nat,nn=(a:Int):=⟨nn.toNat,by omega⟩
  have ha:1≤a∧a≤50∧a<ks.length∧ks.length≤a+50:=by omega
  rw [Int.toNat_natCast,show ((ks.length:Int)-(a:Int)).toNat=ks.length-a by omega]
  have s1:(rep {data:=#[116]} a).size=a:=by rw [rep_size];show a*1=a;omega
  have s2:(rep {data:=#[101]} (ks.length-a)).size=ks.length-a:=by rw [rep_size];show (ks.length-a)*1=_;omega
  have hlet:∀k,k<ks.length→letAt (rep {data:=#[116]} a++rep {data:=#[101]} (ks.length-a)) k=if k<a then 116 else 101:=by
   intro k hk
   by_cases hka:k<a
   ·rw [letAt_app_l (by omega),letAt_rep1 hka,if_pos hka];rfl
   ·rw [letAt_app_r (by omega) (by omega),letAt_rep1 (by omega),if_neg hka];rfl
  have h63:((rep {data:=#[116]} a++rep {data:=#[101]} (ks.length-a)).toList==[63])=false:=no63 (fun _=>by rw [hlet 0 (by omega),if_pos (by omega)];decide)
  have hkids:(takesAll 3 (ks.take a) 1 50&&takesAll 2 (ks.drop a) 1 50)=true↔∀k,k<ks.length→fits (letAt (rep {data:=#[116]} a++rep {data:=#[101]} (ks.length-a)) k) (ks.getD k 0)=true:=by
   unfold takesAll
   rw [Bool.and_eq_true,Bool.and_eq_true,Bool.and_eq_true,Bool.and_eq_true,Bool.and_eq_true,all_iff,all_iff]
   simp only [decide_eq_true_eq,List.length_take,List.length_drop]
   constructor
   ·rintro ⟨⟨_,_,p⟩,_,_,q⟩ k hk
    rw [hlet k hk]
    by_cases hka:k<a
    ·rw [if_pos hka]
     have:=p k (by omega)
     rw [show (ks.take a).getD k 0=ks.getD k 0 by simp [List.getD_eq_getElem?_getD,hka]] at this
     exact this
    ·rw [if_neg hka]
     have:=q (k-a) (by omega)
     rw [show (ks.drop a).getD (k-a) 0=ks.getD k 0 by simp [List.getD_eq_getElem?_getD,show a+(k-a)=k by omega]] at this
     exact this
   ·intro g
    refine ⟨⟨by omega,by omega,fun k hk=>?_⟩,by omega,by omega,fun k hk=>?_⟩
    ·have:=g k (by omega)
     rw [hlet k (by omega),if_pos (by omega)] at this
     rw [show (ks.take a).getD k 0=ks.getD k 0 by simp [List.getD_eq_getElem?_getD,show k<a by omega]]
     exact this
    ·have:=g (a+k) (by omega)
     rw [hlet _ (by omega),if_neg (by omega)] at this
     rw [show (ks.drop a).getD k 0=ks.getD (a+k) 0 by simp [List.getD_eq_getElem?_getD]]
     exact this
  have hf:numbered (a:Int) tx nms 1 50=true↔fieldsB 2 (a:Int) tx nms=true:=by
   unfold numbered fieldsB textOk numOk
   rw [show least 2=0 from rfl,show most 2=0 from rfl,if_neg (by decide)]
   simp only [Bool.and_eq_true,Bool.or_eq_true,decide_eq_true_eq,beq_self_eq_true,true_or,and_true]
   constructor
   ·rintro ⟨_,_,c,d⟩
    have:nms=[]:=List.length_eq_zero_iff.1 d
    subst this
    exact ⟨by simp,by simp,rfl,.inr c,by omega⟩
   ·rintro ⟨_,b,_,d|d,_⟩
    ·exact absurd d (by decide)
    ·exact ⟨by omega,by omega,d,by omega⟩
  rw [Bool.and_eq_true,Bool.and_eq_true,hf,hkids,decide_eq_true_eq]
  constructor
  ·rintro ⟨p,_,q⟩
   exact ⟨p,⟨by rw [ByteArray.size_append];omega,h63,q⟩,fun e=>absurd e (by decide)⟩
  ·rintro ⟨p,⟨_,_,q⟩,_⟩
   exact ⟨p,by omega,q⟩
theorem tbl6 {nn:Int} {tx:List Int} {nms:List (List Int)} {ks:List Int}:fitsI 6 nn tx nms ks=true↔TableOk 6 nn tx nms ks:=by
 show (ifParts ks.length 0 ks&&(named nn tx nms 0 0&&decide (2≤ks.length)))=true↔_
 rw [Bool.and_eq_true,Bool.and_eq_true,named_iff (lo:=0) (hi:=0) (kd:=6) rfl rfl (by decide) (by decide) (by decide) (by decide),decide_eq_true_eq,ifParts_iff]
 unfold TableOk
 rw [show shape 6 nn (ks.length:Int)=(if (ks.length:Int)<2 then {data:=#[63]} else rep {data:=#[101,98]} ((ks.length:Int) / 2).toNat++rep {data:=#[98]} ((ks.length:Int) % 2).toNat) from rfl]
 by_cases h:ks.length<2
 ·rw [if_pos (by omega)]
  exact ⟨fun x=>absurd x.2.2 (by omega),fun x=>absurd x.2.1 bad63⟩
 ·rw [if_neg (by omega),show ((ks.length:Int) / 2).toNat=ks.length / 2 by omega,show ((ks.length:Int) % 2).toNat=ks.length % 2 by omega]
  have s1:(rep {data:=#[101,98]} (ks.length / 2)).size=ks.length / 2*2:=by rw [rep_size];rfl
  have s2:(rep {data:=#[98]} (ks.length % 2)).size=ks.length % 2:=by rw [rep_size];show _*1=_;omega
  have hlet:∀k,k<ks.length→letAt (rep {data:=#[101,98]} (ks.length / 2)++rep {data:=#[98]} (ks.length % 2)) k=if k % 2=1∨k+1=ks.length then 98 else 101:=by
   intro k hk
   by_cases hka:k<ks.length / 2*2
   ·rw [letAt_app_l (by omega),letAt_rep2 hka]
    by_cases h1:k % 2=1
    ·rw [if_pos h1,if_pos (.inl h1)]
    ·rw [if_neg h1,if_neg (by omega)]
   ·rw [letAt_app_r (by omega) (by omega),letAt_rep1 (by omega),if_pos (by omega)];rfl
  have h63:((rep {data:=#[101,98]} (ks.length / 2)++rep {data:=#[98]} (ks.length % 2)).toList==[63])=false:=no63 (fun _=>by rw [hlet 0 (by omega),if_neg (by omega)];decide)
  have hpt:∀k,k<ks.length→fits (letAt (rep {data:=#[101,98]} (ks.length / 2)++rep {data:=#[98]} (ks.length % 2)) k) (ks.getD k 0)=takes (if (0+k) % 2=1∨0+k+1=ks.length then 0 else 2) (ks.getD k 0):=by
   intro k hk
   rw [hlet k hk,Nat.zero_add]
   by_cases h1:k % 2=1∨k+1=ks.length
   ·rw [if_pos h1,if_pos h1];rfl
   ·rw [if_neg h1,if_neg h1];rfl
  constructor
  ·rintro ⟨p,q,_⟩
   exact ⟨q,⟨by rw [ByteArray.size_append];omega,h63,fun k hk=>by rw [hpt k hk];exact p k hk⟩,fun e=>absurd e (by decide)⟩
  ·rintro ⟨q,⟨_,_,p⟩,_⟩
   exact ⟨fun k hk=>by rw [← hpt k hk];exact p k hk,q,by omega⟩
theorem tbl_any {kd nn:Int} {tx:List Int} {nms:List (List Int)} {ks:List Int} (h0:0≤kd) (h26:kd≤26) (hk:ks.length≤6000):fitsI kd nn tx nms ks=true↔TableOk kd nn tx nms ks:=by
 have:kd=0∨kd=1∨kd=2∨kd=3∨kd=4∨kd=5∨kd=6∨kd=7∨kd=8∨kd=9∨kd=10∨kd=11∨kd=12∨kd=13∨kd=14∨kd=15∨kd=16∨kd=17∨kd=18∨kd=19∨kd=20∨kd=21∨kd=22∨kd=23∨kd=24∨kd=25∨kd=26:=by omega
 rcases this with rfl|rfl|rfl|rfl|rfl|rfl|rfl|rfl|rfl|rfl|rfl|rfl|rfl|rfl|rfl|rfl|rfl|rfl|rfl|rfl|rfl|rfl|rfl|rfl|rfl|rfl|rfl
 ·exact tbl0 hk
 ·exact tbl1
 ·exact tbl2
 ·exact tbl3
 ·exact tbl4
 ·exact tbl5
 ·exact tbl6
 ·exact tbl7
 ·exact tbl8
 ·exact tbl9
 ·exact tbl10
 ·exact tbl11
 ·exact tbl12
 ·exact tbl13
 ·exact tbl14
 ·exact tbl15
 ·exact tbl16
 ·exact tbl17
 ·exact tbl18
 ·exact tbl19
 ·exact tbl20 hk
 ·exact tbl21
 ·exact tbl22
 ·exact tbl23
 ·exact tbl24
 ·exact tbl25
 ·exact tbl26
def loopT {α:Type} (f:Nat→Option (α×Nat)):Nat→Nat→Option (List α×Nat)
 |0,p=>some ([],p)
 |c+1,p=>match f p with
  |none=>none
  |some (t,m)=>match loopT f c m with
   |none=>none
   |some (ts,e)=>some (t::ts,e)
def treeAt (l:List Nd):(D:Nat)→Nat→Option (Tr D×Nat)
 |0,_=>none
 |D+1,i=>if i<l.length∧0≤knd l i∧knd l i≤26∧0≤cnt l i then
   match loopT (treeAt l D) (cnt l i).toNat (i+1) with
   |none=>none
   |some (ks,e)=>some (mkT (l.getD i nd0) ks,e)
  else none
theorem okT_mk {D:Nat} (d:Nd) (ks:List (Tr D)) (deep:Nat) (lp:Bool):okT (mkT d ks) deep lp=((decide (deep≤200)&&(fitsI d.kind d.n d.text d.names (ks.map kindT)&&(!(d.kind==8) || lp)))&&ks.all (fun c=>okT c (deep+1) (innerOf d.kind lp))):=rfl
def isValidT {D:Nat} (t:Tr D):Bool:=okT t 1 false&&(kindT t==0)
def growV (l:List Nd):Option (Tr (l.length+1)) :=
 match treeAt l (l.length+1) 0 with
 |none=>none
 |some (t,e)=>if e=l.length then some t else none
def validI (l:List Nd):Bool:=decide (l.length≤6000)&&(match growV l with
 |none=>false
 |some t=>isValidT t)
theorem loopT_len {α:Type} {f:Nat→Option (α×Nat)}:∀{c p e:Nat} {ts:List α},loopT f c p=some (ts,e)→ts.length=c:=by
 intro c
 induction c with
 |zero=>intro p e ts h;rw [loopT] at h;cases h;rfl
 |succ c ih =>
  intro p e ts h
  rw [loopT] at h
  cases hf:f p with
  |none=>rw [hf] at h;cases h
  |some x =>
   obtain ⟨t,m⟩:=x
   rw [hf] at h
   simp only at h
   cases hl:loopT f c m with
   |none=>rw [hl] at h;cases h
   |some y =>
    obtain ⟨ts',e'⟩:=y
    rw [hl] at h
    simp only [Option.some.injEq,Prod.mk.injEq] at h
    obtain ⟨rfl,rfl⟩:=h
    simp [ih hl]
theorem loopT_cons {α:Type} {f:Nat→Option (α×Nat)} {c p e:Nat} {ts:List α} (h:loopT f (c+1) p=some (ts,e)):∃t m r,f p=some (t,m)∧loopT f c m=some (r,e)∧ts=t::r:=by
 rw [loopT] at h
 cases hf:f p with
 |none=>rw [hf] at h;cases h
 |some x =>
  obtain ⟨t,m⟩:=x
  rw [hf] at h
  simp only at h
  cases hl:loopT f c m with
  |none=>rw [hl] at h;cases h
  |some y =>
   obtain ⟨ts',e'⟩:=y
   rw [hl] at h
   simp only [Option.some.injEq,Prod.mk.injEq] at h
   obtain ⟨rfl,rfl⟩:=h
   exact ⟨t,m,ts',rfl,hl,rfl⟩
theorem loopT_mk {α:Type} {f:Nat→Option (α×Nat)} {c p m e:Nat} {t:α} {r:List α} (h1:f p=some (t,m)) (h2:loopT f c m=some (r,e)):loopT f (c+1) p=some (t::r,e):=by
 rw [loopT,h1];simp only;rw [h2]
theorem treeAt_inv {l:List Nd} {D i e:Nat} {t:Tr (D+1)} (h:treeAt l (D+1) i=some (t,e)):(i<l.length∧0≤knd l i∧knd l i≤26∧0≤cnt l i)∧∃ks,t=mkT (l.getD i nd0) ks∧loopT (treeAt l D) (cnt l i).toNat (i+1)=some (ks,e):=by
 rw [treeAt] at h
 split at h
 ·rename_i hc
  refine ⟨hc,?_⟩
  cases hl:loopT (treeAt l D) (cnt l i).toNat (i+1) with
  |none=>rw [hl] at h;cases h
  |some x =>
   obtain ⟨ks,e'⟩:=x
   rw [hl] at h
   simp only [Option.some.injEq,Prod.mk.injEq] at h
   obtain ⟨rfl,rfl⟩:=h
   exact ⟨ks,rfl,rfl⟩
 ·cases h
theorem kind_treeAt {l:List Nd} {D i e:Nat} {t:Tr D} (h:treeAt l D i=some (t,e)):kindT t=knd l i:=by
 cases D with
 |zero=>cases h
 |succ D =>
  obtain ⟨_,ks,rfl,_⟩:=treeAt_inv h
  rfl
theorem goodKids_iff {f:Nat→Bool} {l:List Nd} {blk:Bool} {sh:ByteArray}:∀{ks:List Nat} {j:Nat},goodKids f l blk sh j ks=true↔∀k,k<ks.length→fits (letAt sh (j+k)) (knd l (ks.getD k 0))=true∧f (ks.getD k 0)=true∧(blk=true→k+1<ks.length→¬(knd l (ks.getD k 0)=9∨knd l (ks.getD k 0)=8))
 |[],j=>by simp [goodKids]
 |a::r,j=>by
  rw [goodKids,Bool.and_eq_true,Bool.and_eq_true,Bool.and_eq_true,goodKids_iff (ks:=r)]
  constructor
  ·rintro ⟨h1,h2,h3,h4⟩ k hk
   cases k with
   |zero =>
    refine ⟨h1,h2,fun hb hlt=>?_⟩
    subst hb
    have:r.isEmpty=false:=by cases r with
     |nil=>simp at hlt
     |cons=>rfl
    simpa [this] using h3
   |succ k =>
    have:=h4 k (by simpa using hk)
    rw [show j+(k+1)=j+1+k by omega]
    exact ⟨this.1,this.2.1,fun hb hlt=>this.2.2 hb (by simpa using hlt)⟩
  ·intro h
   refine ⟨(h 0 (by simp)).1,(h 0 (by simp)).2.1,?_,fun k hk=>?_⟩
   ·have:=(h 0 (by simp)).2.2
    cases blk with
    |false=>rfl
    |true =>
     cases r with
     |nil=>simp
     |cons b r=>simpa using this rfl (by simp)
   ·have:=h (k+1) (by simpa using hk)
    rw [show j+(k+1)=j+1+k by omega] at this
    exact ⟨this.1,this.2.1,fun hb hlt=>this.2.2 hb (by simpa using hlt)⟩
theorem rows_of {l:List Nd} {d D:Nat} {lp:Bool} (hd:d≤200) (ih:∀i t e,treeAt l D i=some (t,e)→okT t (201-d) lp=true→endAt l d i=some e∧good l d i lp=true) :
  ∀(c p e:Nat) (ts:List (Tr D)),loopT (treeAt l D) c p=some (ts,e)→ts.all (fun c=>okT c (201-d) lp)=true →
   loopN (endAt l d) c p=some e∧∀k,k<c→good l d ((kidsL l c p).getD k 0) lp=true∧knd l ((kidsL l c p).getD k 0)=(ts.map kindT).getD k 0:=by
 intro c
 induction c with
 |zero=>intro p e ts h _;rw [loopT] at h;cases h;exact ⟨rfl,fun k hk=>absurd hk (by omega)⟩
 |succ c ic =>
  intro p e ts h ho
  obtain ⟨t,m,r,h1,h2,rfl⟩:=loopT_cons h
  rw [List.all_cons,Bool.and_eq_true] at ho
  obtain ⟨e1,g1⟩:=ih p t m h1 ho.1
  obtain ⟨e2,g2⟩:=ic m e r h2 ho.2
  refine ⟨by rw [loopN_some e1];exact e2,fun k hk=>?_⟩
  cases k with
  |zero=>exact ⟨g1,(kind_treeAt h1).symm⟩
  |succ k =>
   have e3:(kidsL l (c+1) p).getD (k+1) 0=(kidsL l c m).getD k 0:=by
    rw [kidsL];unfold nx;rw [endAt_le e1 hd];rfl
   rw [e3]
   exact g2 k (by omega)
theorem good_of {l:List Nd} (hl:l.length≤6000):∀(D d:Nat),d≤200→∀(i:Nat) (t:Tr D) (e:Nat) (lp:Bool),treeAt l D i=some (t,e)→okT t (201-d) lp=true→endAt l d i=some e∧good l d i lp=true:=by
 intro D
 induction D with
 |zero=>intro d _ i t e lp h;cases h
 |succ D ih =>
  intro d hd i t e lp h ho
  obtain ⟨⟨hi,hk0,hk1,hc⟩,ks,rfl,hL⟩:=treeAt_inv h
  rw [okT_mk] at ho
  simp only [Bool.and_eq_true,decide_eq_true_eq] at ho
  obtain ⟨⟨hdeep,hfit,hbr⟩,hS⟩:=ho
  obtain ⟨d',rfl⟩:∃d',d=d'+1:=⟨d-1,by omega⟩
  have hlen:ks.length=(cnt l i).toNat:=loopT_len hL
  rw [show 201-(d'+1)+1=201-d' by omega] at hS
  obtain ⟨hN,hG⟩:=rows_of (by omega) (fun i t e h1 h2=>ih d' (by omega) i t e _ h1 h2) _ _ _ _ hL hS
  have hbd:=loopN_bd (l:=l) (fun _ _ h=>endAt_bd h) (by omega) hN
  have hcl:cnt l i=((ks.map kindT).length:Int):=by rw [List.length_map];omega
  have hE:endAt l (d'+1) i=some e:=by rw [endAt,if_pos ⟨hi,hc,by omega⟩];exact hN
  refine ⟨hE,?_⟩
  have hT:=(tbl_any hk0 hk1 (by rw [List.length_map];omega)).1 hfit
  obtain ⟨t1,⟨t2,t3,t4⟩,t5⟩:=hT
  rw [good]
  have hkl:(kids l i).length=(cnt l i).toNat:=kidsL_len l _ _
  rw [Bool.and_eq_true,goodKids_iff]
  constructor
  ·unfold headOk
   rw [decide_eq_true hk0,decide_eq_true hk1,hcl,show fieldsB (knd l i) (l.getD i nd0).n (l.getD i nd0).text (l.getD i nd0).names=true from t1]
   rw [show ((shape (knd l i) (l.getD i nd0).n ((ks.map kindT).length:Int)).toList==[63])=false from t3,decide_eq_true (show ((shape (knd l i) (l.getD i nd0).n ((ks.map kindT).length:Int)).size:Int)=((ks.map kindT).length:Int) from t2)]
   exact hbr
  ·intro k hk
   rw [hkl] at hk
   obtain ⟨g1,g2⟩:=hG k hk
   have hk2:k<(ks.map kindT).length:=by rw [List.length_map];omega
   refine ⟨?_,g1,fun hb hlt=>?_⟩
   ·rw [Nat.zero_add,hcl]
    show fits _ (knd l ((kidsL l (cnt l i).toNat (i+1)).getD k 0))=true
    rw [g2]
    exact t4 k hk2
   ·rw [hkl] at hlt
    show ¬(knd l ((kidsL l (cnt l i).toNat (i+1)).getD k 0)=9∨knd l ((kidsL l (cnt l i).toNat (i+1)).getD k 0)=8)
    rw [g2]
    exact t5 (by simpa using hb) k (by rw [List.length_map];omega)
theorem tree_of {l:List Nd} (hl:l.length≤6000):∀(d:Nat),d≤200→∀(D i e:Nat) (lp:Bool),l.length-i<D→endAt l d i=some e→good l d i lp=true→∃t,treeAt l D i=some (t,e)∧okT t (201-d) lp=true:=by
 intro d
 induction d with
 |zero=>intro _ D i e lp _ h;cases h
 |succ d ih =>
  intro hd D i e lp hD hE hG
  obtain ⟨⟨hi,hc,hcl⟩,hN⟩:=endAt_step hE
  obtain ⟨D,rfl⟩:∃D',D=D'+1:=⟨D-1,by omega⟩
  rw [good,Bool.and_eq_true,goodKids_iff] at hG
  obtain ⟨hH,hK⟩:=hG
  unfold headOk at hH
  simp only [Bool.and_eq_true,decide_eq_true_eq] at hH
  obtain ⟨hk0,hk1,hF,hs,h63,hbr⟩:=hH
  have hkl:(kids l i).length=(cnt l i).toNat:=kidsL_len l _ _
  rw [hkl] at hK
  have hloop:∃ts,loopT (treeAt l D) (cnt l i).toNat (i+1)=some (ts,e)∧ts.all (fun c=>okT c (201-d) (innerOf (knd l i) lp))=true∧∀k,k<(cnt l i).toNat→knd l ((kidsL l (cnt l i).toNat (i+1)).getD k 0)=(ts.map kindT).getD k 0:=by
   have gen:∀(c p e:Nat),i+1≤p→loopN (endAt l d) c p=some e→(∀k,k<c→good l d ((kidsL l c p).getD k 0) (innerOf (knd l i) lp)=true) →
     ∃ts,loopT (treeAt l D) c p=some (ts,e)∧ts.all (fun c=>okT c (201-d) (innerOf (knd l i) lp))=true∧∀k,k<c→knd l ((kidsL l c p).getD k 0)=(ts.map kindT).getD k 0:=by
    intro c
    induction c with
    |zero=>intro p e _ h _;rw [loopN] at h;cases h;exact ⟨[],rfl,rfl,fun k hk=>absurd hk (by omega)⟩
    |succ c ic =>
     intro p e hp h hg
     cases hf:endAt l d p with
     |none=>rw [loopN_none hf] at h;cases h
     |some m =>
      rw [loopN_some hf] at h
      have e3:∀k,(kidsL l (c+1) p).getD (k+1) 0=(kidsL l c m).getD k 0:=fun k=>by
       rw [kidsL];unfold nx;rw [endAt_le hf (show d≤200 by omega)];rfl
      have hpm:=endAt_bd hf
      obtain ⟨t,h1,o1⟩:=ih (by omega) D p m (innerOf (knd l i) lp) (by omega) hf (hg 0 (by omega))
      obtain ⟨r,h2,o2,k2⟩:=ic m e (by omega) h (fun k hk=>by rw [← e3];exact hg (k+1) (by omega))
      refine ⟨t::r,loopT_mk h1 h2,by rw [List.all_cons,o1,o2];rfl,fun k hk=>?_⟩
      cases k with
      |zero=>exact (kind_treeAt h1).symm
      |succ k=>rw [e3];exact k2 k (by omega)
   exact gen _ _ _ (Nat.le_refl _) hN (fun k hk=>(hK k hk).2.1)
  obtain ⟨ts,hL,hO,hkk⟩:=hloop
  refine ⟨mkT (l.getD i nd0) ts,by rw [treeAt,if_pos ⟨hi,hk0,hk1,hc⟩,hL],?_⟩
  have hlen:ts.length=(cnt l i).toNat:=loopT_len hL
  have hcl2:cnt l i=((ts.map kindT).length:Int):=by rw [List.length_map];omega
  rw [okT_mk]
  simp only [Bool.and_eq_true,decide_eq_true_eq]
  refine ⟨⟨by omega,?_,hbr⟩,by rw [show 201-(d+1)+1=201-d by omega];exact hO⟩
  apply (tbl_any (show 0≤(l.getD i nd0).kind from hk0) (show (l.getD i nd0).kind≤26 from hk1) (by rw [List.length_map];omega)).2
  rw [hcl2] at hs h63
  rw [Bool.not_eq_true'] at h63
  refine ⟨hF,⟨hs,h63,fun k hk=>?_⟩,fun h0 k hk=>?_⟩
  ·rw [List.length_map] at hk
   have:=(hK k (by omega)).1
   rw [Nat.zero_add,hcl2] at this
   rw [← hkk k (by omega)]
   exact this
  ·rw [List.length_map] at hk
   have:=(hK k (by omega)).2.2 (by rw [show knd l i=0 from h0];rfl) (by omega)
   rw [← hkk k (by omega)]
   exact this
theorem valid_eq (l:List Nd):valid l=validI l:=by
 unfold valid validI
 by_cases h6:l.length≤6000
 ·rw [decide_eq_true h6,Bool.true_and,Bool.true_and,Bool.eq_iff_iff]
  simp only [Bool.and_eq_true,decide_eq_true_eq,beq_iff_eq]
  constructor
  ·rintro ⟨h1,hk,hE,hG⟩
   obtain ⟨t,ht,ho⟩:=tree_of h6 200 (Nat.le_refl _) (l.length+1) 0 _ false (by omega) hE hG
   unfold growV
   rw [ht]
   simp only [if_true]
   unfold isValidT
   rw [show okT t 1 false=true from ho,kind_treeAt ht,hk]
   rfl
  ·intro h
   unfold growV at h
   cases hT:treeAt l (l.length+1) 0 with
   |none=>rw [hT] at h;cases h
   |some x =>
    obtain ⟨t,e⟩:=x
    rw [hT] at h
    simp only at h
    by_cases he:e=l.length
    ·rw [if_pos he] at h
     simp only at h
     unfold isValidT at h
     rw [Bool.and_eq_true,beq_iff_eq,kind_treeAt hT] at h
     obtain ⟨a,b⟩:=good_of h6 _ 200 (Nat.le_refl _) 0 t e false hT h.1
     have:=(treeAt_inv hT).1.1
     exact ⟨by omega,h.2,by rw [a,he],b⟩
    ·rw [if_neg he] at h;cases h
 ·rw [decide_eq_false h6];simp
end vt
end Go.Proofs.YtkmiagkehcflnaaGreatDoor
