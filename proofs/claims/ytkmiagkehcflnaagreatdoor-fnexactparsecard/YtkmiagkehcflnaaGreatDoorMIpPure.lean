import Derived.Test.YtkmiagkehcflnaaGreatDoorMTxNil
import Derived.Test.YtkmiagkehcflnaaGreatDoorMPsStart
set_option linter.unusedVariables false
set_option linter.unusedSimpArgs false
set_option maxRecDepth 100000
set_option maxHeartbeats 8000000
namespace Go.Proofs.YtkmiagkehcflnaaGreatDoor
namespace lex
open Go.RowKit bts scn lit
def Toks (zs:List Int):Nat→List (Int×Nat×Nat)→Prop
 |_,[]=>True
 |e,(kd,a,n)::r=>e≤a∧1≤n∧a+n≤zs.length∧blank (zs.getD a 0)=false∧¬(zs.getD a 0=45∧a+1<zs.length∧zs.getD (a+1) 0=45)∧tokK zs a=(kd,n,0)∧Toks zs (a+n) r
theorem Toks.mono {zs:List Int} {e e':Nat} (h:e'≤e):∀{l:List (Int×Nat×Nat)},Toks zs e l→Toks zs e' l
 |[],_=>trivial
 |(kd,a,n)::r,ht=>by
  obtain ⟨h1,h2⟩:=ht
  exact ⟨by omega,h2⟩
theorem lx_toks {zs:List Int} (hb:Bts zs):∀(f k:Nat) (out:List (Int×Nat×Nat)),zs.length-k≤f→((lx zs k out).2.1=0∧∃S,(lx zs k out).1=out++S∧Toks zs k S)∨(¬(lx zs k out).2.1=0∧(lx zs k out).1=[]):=by
 intro f
 induction f with
 |zero =>
  intro k out h
  rw [lx_end (by omega)]
  exact .inl ⟨rfl,[],by simp,trivial⟩
 |succ f ih =>
  intro k out h
  by_cases hk:k<zs.length
  ·cases h1:blank (zs.getD k 0)
   ·by_cases h2:zs.getD k 0=45∧k+1<zs.length∧zs.getD (k+1) 0=45
    ·rw [lx_comment hk h1 h2]
     have hp:1≤span notLf zs k:=by rw [span_step hk (by rw [h2.1];rfl)];omega
     rcases ih (k+span notLf zs k) out (by omega) with ⟨h3,S,h4,h5⟩|h3
     ·exact .inl ⟨h3,S,h4,h5.mono (by omega)⟩
     ·exact .inr h3
    ·by_cases h3:(tokK zs k).2.2=0
     ·have hf:=tok_fits hb hk h3
      rw [lx_tok hk h1 h2 h3 (by omega)]
      rcases ih (k+(tokK zs k).2.1) (out++[((tokK zs k).1,k,(tokK zs k).2.1)]) (by omega) with ⟨h4,S,h5,h6⟩|h4
      ·refine .inl ⟨h4,((tokK zs k).1,k,(tokK zs k).2.1)::S,by rw [h5];simp,Nat.le_refl _,hf.1,hf.2,h1,h2,?_,h6⟩
       rw [← h3]
      ·exact .inr h4
     ·rw [lx_bad hk h1 h2 h3]
      exact .inr ⟨h3,rfl⟩
   ·rw [lx_blank hk h1]
    rcases ih (k+1) out (by omega) with ⟨h3,S,h4,h5⟩|h3
    ·exact .inl ⟨h3,S,h4,h5.mono (by omega)⟩
    ·exact .inr h3
  ·rw [lx_end hk]
   exact .inl ⟨rfl,[],by simp,trivial⟩
theorem lexR_toks {zs:List Int} (hb:Bts zs):Toks zs 0 (lexR zs).1:=by
 unfold lexR
 by_cases h:6000<zs.length
 ·rw [if_pos h];trivial
 ·rw [if_neg h]
  rcases lx_toks hb zs.length 0 [] (by omega) with ⟨_,S,e,hS⟩|⟨_,e⟩
  ·rw [e];exact hS
  ·rw [e];trivial
end lex
namespace ps
open Go.RowKit bts nod lex tk
def tot (ks:List (List Nd)):Nat:=ks.flatten.length
theorem tot_nil:tot []=0:=rfl
theorem tot_app (a b:List (List Nd)):tot (a++b)=tot a+tot b:=by simp [tot]
theorem tot_node (n:Nd) (ks:List (List Nd)):tot [tk.node n ks]=1+tot ks:=by simp [tot,tk.node];omega
theorem tot_one (x:Nd):tot [[x]]=1:=rfl
theorem tot_leaf (k:Int):tot [leaf k]=1:=rfl
theorem tot_single (l:List Nd):tot [l]=l.length:=by simp [tot]
section
variable {zs:List Int} {T:List (Int×Nat×Nat)} {s:Ps} {t:ByteArray}
theorem is_bad (h:isP zs T s t=true):s.bad<0∧s.at_<T.length:=by
 rcases over_cases T s with ⟨_,ho⟩|⟨_,_,ho⟩|⟨hb,hlt,_⟩
 ·simp [isP,kindP,ho] at h
 ·simp [isP,kindP,ho] at h
 ·exact ⟨by omega,hlt⟩
theorem kind_bad {k:Int} (h:kindP T s=k) (hk:¬k=0):s.bad<0∧s.at_<T.length:=by
 rcases over_cases T s with ⟨_,ho⟩|⟨_,_,ho⟩|⟨hb,hlt,_⟩
 ·simp [kindP,ho] at h;omega
 ·simp [kindP,ho] at h;omega
 ·exact ⟨by omega,hlt⟩
theorem got_yes (h:isP zs T s t=true):(got zs T s t).at_=s.at_+1∧(got zs T s t).bad=s.bad:=by simp [got,h,step]
theorem got_no (h:¬isP zs T s t=true):got zs T s t=s:=by simp [got,h]
theorem got_or (zs:List Int) (T:List (Int×Nat×Nat)) (s:Ps) (t:ByteArray):((got zs T s t).at_=s.at_+1∧s.at_<T.length∧s.bad<0∧(got zs T s t).bad=s.bad)∨((got zs T s t).at_=s.at_∧(got zs T s t).bad=s.bad):=by
 by_cases h:isP zs T s t=true
 ·exact .inl ⟨(got_yes h).1,(is_bad h).2,(is_bad h).1,(got_yes h).2⟩
 ·rw [got_no h];exact .inr ⟨rfl,rfl⟩
theorem wrong_f (zs:List Int) (T:List (Int×Nat×Nat)) (s:Ps):(wrong zs T s).at_=s.at_∧0≤(wrong zs T s).bad:=by
 unfold wrong
 split
 ·exact ⟨rfl,by assumption⟩
 ·refine ⟨rfl,?_⟩
  show 0≤(if _ then _ else _:Int)
  split <;> exact Int.natCast_nonneg _
theorem want_or (zs:List Int) (T:List (Int×Nat×Nat)) (s:Ps) (t:ByteArray):(isP zs T s t=true∧(want zs T s t).at_=s.at_+1∧s.at_<T.length∧s.bad<0∧(want zs T s t).bad=s.bad)∨(¬isP zs T s t=true∧(want zs T s t).at_=s.at_∧0≤(want zs T s t).bad):=by
 by_cases h:isP zs T s t=true
 ·exact .inl ⟨h,by simp [want,h,step],(is_bad h).2,(is_bad h).1,by simp [want,h,step]⟩
 ·refine .inr ⟨h,?_⟩
  have e:want zs T s t=wrong zs T s:=by simp [want,h]
  rw [e]
  exact wrong_f zs T s
theorem want_f (zs:List Int) (T:List (Int×Nat×Nat)) (s:Ps) (t:ByteArray):((want zs T s t).at_=s.at_+1∧s.at_<T.length∧s.bad<0∧(want zs T s t).bad=s.bad)∨((want zs T s t).at_=s.at_∧0≤(want zs T s t).bad):=by
 rcases want_or zs T s t with h|h
 ·exact .inl h.2
 ·exact .inr h.2
theorem name_f (zs:List Int) (T:List (Int×Nat×Nat)) (s:Ps):((nameS zs T s).at_=s.at_+1∧s.at_<T.length∧s.bad<0∧(nameS zs T s).bad=s.bad)∨((nameS zs T s).at_=s.at_∧0≤(nameS zs T s).bad):=by
 unfold nameS
 split
 ·next h=>exact .inl ⟨rfl,(kind_bad h (by decide)).2,(kind_bad h (by decide)).1,rfl⟩
 ·exact .inr (wrong_f zs T s)
theorem namesF_f (zs:List Int) (T:List (Int×Nat×Nat)):∀(f:Nat) (s:Ps) (out:List (List Int)),s.at_≤(namesF zs T f s out).2.at_∧(0≤s.bad→0≤(namesF zs T f s out).2.bad)
 |0,s,out=>⟨Nat.le_refl _,id⟩
 |f+1,s,out=>by
  unfold namesF
  split
  ·next h =>
   have h1:=namesF_f zs T f (nameS zs T (got zs T s {data:=#[44]})) (out++[nameT zs T (got zs T s {data:=#[44]})])
   have h2:=got_yes h
   have h3:=name_f zs T (got zs T s {data:=#[44]})
   omega
  ·exact ⟨Nat.le_refl _,id⟩
theorem want_at (zs:List Int) (T:List (Int×Nat×Nat)) (s:Ps) (t:ByteArray):s.at_≤(want zs T s t).at_:=by
 have:=want_f zs T s t
 omega
theorem name_at (zs:List Int) (T:List (Int×Nat×Nat)) (s:Ps):s.at_≤(nameS zs T s).at_:=by
 have:=name_f zs T s
 omega
theorem got_at (zs:List Int) (T:List (Int×Nat×Nat)) (s:Ps) (t:ByteArray):s.at_≤(got zs T s t).at_:=by
 have:=got_or zs T s t
 omega
theorem names_f (zs:List Int) (T:List (Int×Nat×Nat)) (s:Ps):s.at_≤(names zs T s).2.at_∧(0≤s.bad→0≤(names zs T s).2.bad):=by
 have h1:=namesF_f zs T (T.length+1) (nameS zs T s) [nameT zs T s]
 have h2:=name_f zs T s
 unfold names longer
 show _≤(namesF zs T (T.length+1) (nameS zs T s) [nameT zs T s]).2.at_∧(_→0≤(namesF zs T (T.length+1) (nameS zs T s) [nameT zs T s]).2.bad)
 omega
end
def cOk:Nat→Nat
 |0=>6
 |1=>5
 |2=>5
 |3=>4
 |4=>3
 |5=>2
 |6=>7
 |7=>6
 |8=>3
 |9=>3
 |10=>7
 |11=>11
 |12=>10
 |13=>9
 |14=>8
 |15=>2
 |16=>8
 |_=>2
def cBad:Nat→Nat
 |0=>5
 |1=>1
 |2=>4
 |3=>3
 |4=>2
 |5=>1
 |6=>6
 |7=>1
 |8=>3
 |9=>2
 |10=>1
 |11=>2
 |12=>1
 |13=>4
 |14=>6
 |15=>1
 |16=>3
 |_=>1
def dD:Nat→Nat
 |0=>1
 |1=>0
 |2=>1
 |3=>1
 |4=>1
 |5=>0
 |6=>1
 |7=>0
 |8=>2
 |9=>1
 |10=>2
 |11=>3
 |12=>2
 |13=>2
 |14=>10
 |15=>0
 |16=>2
 |_=>0
def eE:Nat→Nat
 |0=>0
 |1=>0
 |2=>0
 |3=>0
 |4=>0
 |5=>0
 |6=>0
 |7=>0
 |8=>0
 |9=>0
 |10=>1
 |11=>1
 |12=>0
 |13=>0
 |14=>10
 |15=>0
 |16=>0
 |_=>0
def dB:Nat→Nat
 |0=>1
 |1=>0
 |2=>1
 |3=>1
 |4=>1
 |5=>0
 |6=>1
 |7=>0
 |8=>2
 |9=>1
 |10=>0
 |11=>1
 |12=>0
 |13=>2
 |14=>3
 |15=>0
 |16=>2
 |_=>0
def pQ:Nat→Nat
 |0=>0
 |1=>0
 |2=>0
 |3=>0
 |4=>1
 |5=>0
 |6=>0
 |7=>0
 |8=>0
 |9=>0
 |10=>0
 |11=>0
 |12=>0
 |13=>0
 |14=>0
 |15=>0
 |16=>0
 |_=>0
def qQ:Nat→Nat
 |0=>0
 |1=>0
 |2=>0
 |3=>0
 |4=>1
 |5=>0
 |6=>0
 |7=>0
 |8=>0
 |9=>0
 |10=>0
 |11=>0
 |12=>0
 |13=>1
 |14=>0
 |15=>0
 |16=>1
 |_=>0
def need (T:List (Int×Nat×Nat)) (tag:Nat) (s:Ps):Nat:=if 0≤s.bad then cBad tag else 20*(T.length-s.at_)+cOk tag
theorem need_or (T:List (Int×Nat×Nat)) (tag:Nat) (s:Ps):(0≤s.bad∧need T tag s=cBad tag)∨(s.bad<0∧need T tag s=20*(T.length-s.at_)+cOk tag):=by
 unfold need
 split
 ·exact .inl ⟨by assumption,rfl⟩
 ·exact .inr ⟨by omega,rfl⟩
def Gd (d e b p q:Nat) (ks:List (List Nd)) (s:Ps) (r:List (List Nd)×Int×Ps):Prop :=
 s.at_≤r.2.2.at_∧(0≤s.bad→0≤r.2.2.bad)∧tot r.1≤tot ks+20*(r.2.2.at_-s.at_)+d∧(r.2.2.bad<0→tot r.1+p≤tot ks+20*(r.2.2.at_-s.at_)+e)∧(r.2.2.bad<0→s.at_+q≤r.2.2.at_)∧(0≤s.bad→tot r.1≤tot ks+b)
theorem gd_at {d e b p q:Nat} {ks:List (List Nd)} {s:Ps} {r:List (List Nd)×Int×Ps} (h:Gd d e b p q ks s r):s.at_≤r.2.2.at_∧tot r.1≤tot ks+20*(r.2.2.at_-s.at_)+d:=⟨h.1,h.2.2.1⟩
theorem need_le (T:List (Int×Nat×Nat)) (tag:Nat) (s:Ps) (h:cBad tag≤cOk tag):need T tag s≤20*(T.length-s.at_)+cOk tag:=by
 rcases need_or T tag s with ⟨_,e⟩|⟨_,e⟩ <;> omega
theorem nd (tag a b:Nat) {T:List (Int×Nat×Nat)} {s:Ps} {m:Nat} (ha:cBad tag=a) (hb:cOk tag=b) (h:(0≤s.bad∧a≤m)∨(s.bad<0∧20*(T.length-s.at_)+b≤m)):need T tag s≤m:=by
 rcases need_or T tag s with ⟨c,e⟩|⟨c,e⟩ <;> omega
theorem nl (tag b:Nat) {T:List (Int×Nat×Nat)} {s:Ps} {m:Nat} (hb:cOk tag=b) (hc:cBad tag≤cOk tag) (h:20*(T.length-s.at_)+b≤m):need T tag s≤m:=by
 have:=need_le T tag s hc
 omega
theorem nx {tag a b:Nat} {T:List (Int×Nat×Nat)} {s:Ps} {m:Nat} (h:need T tag s≤m) (ha:cBad tag=a) (hb:cOk tag=b):(0≤s.bad∧a≤m)∨(s.bad<0∧20*(T.length-s.at_)+b≤m):=by
 rcases need_or T tag s with ⟨c,e⟩|⟨c,e⟩ <;> omega
theorem opFrom_lt {zs:List Int} {T:List (Int×Nat×Nat)} {s:Ps}:∀(f k:Nat),¬(opFrom zs T s f k).2=0→s.bad<0∧s.at_<T.length
 |0,k,h=>absurd rfl h
 |f+1,k,h=>by
  unfold opFrom at h
  split at h
  ·next hi=>exact is_bad hi
  ·exact opFrom_lt f (k+1) h
theorem oper_lt {zs:List Int} {T:List (Int×Nat×Nat)} {s:Ps} (h:¬(oper zs T s).2=0):s.bad<0∧s.at_<T.length:=by
 unfold oper at h
 split at h
 ·next hi=>exact is_bad hi
 ·split at h
  ·next hi=>exact is_bad hi
  ·exact opFrom_lt 12 0 h
theorem ends_bad {zs:List Int} {T:List (Int×Nat×Nat)} {s:Ps} (h:¬ends zs T s=true):s.bad<0∧s.at_<T.length:=by
 rcases over_cases T s with ⟨_,ho⟩|⟨_,_,ho⟩|⟨hb,hlt,_⟩
 ·simp [ends,ho] at h
 ·simp [ends,ho] at h
 ·exact ⟨by omega,hlt⟩
def Ih (zs:List Int) (T:List (Int×Nat×Nat)) (f:Nat):Prop:=∀(tag:Nat) (n:Int) (ks:List (List Nd)) (s:Ps),tag≤17→need T tag s≤f→Gd (dD tag) (eE tag) (dB tag) (pQ tag) (qQ tag) ks s (pz zs T f tag n ks s)
theorem gd_0 {zs:List Int} {T:List (Int×Nat×Nat)} {f:Nat} (ih:Ih zs T f) (n:Int) (ks:List (List Nd)) (s:Ps) (hn0:need T 0 s≤f+1):Gd 1 0 1 0 0 ks s (pz zs T (f+1) 0 n ks s):=by
 have hn:(0≤s.bad∧5≤f+1)∨(s.bad<0∧20*(T.length-s.at_)+6≤f+1):=nx hn0 rfl rfl
 clear hn0
 rw [pz_0]
 unfold pB0
 dsimp only
 have hx:Gd 1 0 1 0 0 ([]) (s) (pz zs T f 2 (0) ([]) (s)):=ih 2 (0) ([]) (s) (by decide) (nd 2 4 5 rfl rfl (by (try dsimp only);omega))
 generalize pz zs T f 2 (0) ([]) (s)=x at hx ⊢
 unfold Gd at hx;(try dsimp only at hx)
 have hr:Gd 0 0 0 0 0 (x.1) (x.2.2) (pz zs T f 1 (n) (x.1) (x.2.2)):=ih 1 (n) (x.1) (x.2.2) (by decide) (nd 1 1 5 rfl rfl (by (try dsimp only);omega))
 generalize pz zs T f 1 (n) (x.1) (x.2.2)=r at hr ⊢
 unfold Gd at hr;(try dsimp only at hr)
 unfold Gd;(try simp only [tot_nil,tot_app,tot_node,tot_one,tot_leaf] at *);(try dsimp only at *);omega
theorem gd_1 {zs:List Int} {T:List (Int×Nat×Nat)} {f:Nat} (ih:Ih zs T f) (n:Int) (ks:List (List Nd)) (s:Ps) (hn0:need T 1 s≤f+1):Gd 0 0 0 0 0 ks s (pz zs T (f+1) 1 n ks s):=by
 have hn:(0≤s.bad∧1≤f+1)∨(s.bad<0∧20*(T.length-s.at_)+5≤f+1):=nx hn0 rfl rfl
 clear hn0
 rw [pz_1]
 unfold pB1
 dsimp only
 by_cases hb:0≤s.bad
 ·rw [if_pos hb]
  unfold Gd;(try simp only [tot_nil,tot_app,tot_node,tot_one,tot_leaf] at *);(try dsimp only at *);omega
 ·rw [if_neg hb]
  by_cases hq:(oper zs T s).2<n∨(oper zs T s).2=0
  ·rw [if_pos hq]
   unfold Gd;(try simp only [tot_nil,tot_app,tot_node,tot_one,tot_leaf] at *);(try dsimp only at *);omega
  ·rw [if_neg hq]
   have hlt:=oper_lt (zs:=zs) (T:=T) (s:=s) (fun e=>hq (.inr e))
   have gs:(step s).at_=s.at_+1∧(step s).bad=s.bad:=⟨rfl,rfl⟩
   generalize step s=s1 at *
   clear hq
   generalize oper zs T s=q at *
   have hy:Gd 1 0 1 0 0 ([]) (s1) (pz zs T f 0 (if q.2=4 then q.2 else q.2+1) ([]) (s1)):=ih 0 (if q.2=4 then q.2 else q.2+1) ([]) (s1) (by decide) (nd 0 5 6 rfl rfl (by (try dsimp only);omega))
   generalize pz zs T f 0 (if q.2=4 then q.2 else q.2+1) ([]) (s1)=y at hy ⊢
   unfold Gd at hy;(try dsimp only at hy)
   have hr:Gd 0 0 0 0 0 ([tk.node q.1 (ks++y.1)]) (y.2.2) (pz zs T f 1 (n) ([tk.node q.1 (ks++y.1)]) (y.2.2)):=ih 1 (n) ([tk.node q.1 (ks++y.1)]) (y.2.2) (by decide) (nd 1 1 5 rfl rfl (by (try dsimp only);omega))
   generalize pz zs T f 1 (n) ([tk.node q.1 (ks++y.1)]) (y.2.2)=r at hr ⊢
   unfold Gd at hr;(try dsimp only at hr)
   unfold Gd;(try simp only [tot_nil,tot_app,tot_node,tot_one,tot_leaf] at *);(try dsimp only at *);omega
theorem gd_2 {zs:List Int} {T:List (Int×Nat×Nat)} {f:Nat} (ih:Ih zs T f) (n:Int) (ks:List (List Nd)) (s:Ps) (hn0:need T 2 s≤f+1):Gd 1 0 1 0 0 ks s (pz zs T (f+1) 2 n ks s):=by
 have hn:(0≤s.bad∧4≤f+1)∨(s.bad<0∧20*(T.length-s.at_)+5≤f+1):=nx hn0 rfl rfl
 clear hn0
 rw [pz_2]
 unfold pB2
 dsimp only
 by_cases hi:isP zs T s {data:=#[110,111,116]}=true
 ·rw [if_pos hi]
  have gs1:=got_yes hi
  have bs1:=is_bad hi
  generalize got zs T s {data:=#[110,111,116]}=s1 at *
  have hx:(s1).at_≤(pz zs T f 2 (0) ([]) (s1)).2.2.at_∧tot (pz zs T f 2 (0) ([]) (s1)).1≤tot ([])+20*((pz zs T f 2 (0) ([]) (s1)).2.2.at_-(s1).at_)+1:=gd_at (ih 2 (0) ([]) (s1) (by decide) (nl 2 5 rfl (by decide) (by (try dsimp only);omega)))
  generalize pz zs T f 2 (0) ([]) (s1)=x at hx ⊢
  (try dsimp only at hx)
  unfold Gd;(try simp only [tot_nil,tot_app,tot_node,tot_one,tot_leaf] at *);(try dsimp only at *);omega
 ·rw [if_neg hi]
  by_cases hj:isP zs T s {data:=#[45]}=true
  ·rw [if_pos hj]
   have gs1:=got_yes hj
   have bs1:=is_bad hj
   generalize got zs T s {data:=#[45]}=s1 at *
   have hx:(s1).at_≤(pz zs T f 2 (0) ([]) (s1)).2.2.at_∧tot (pz zs T f 2 (0) ([]) (s1)).1≤tot ([])+20*((pz zs T f 2 (0) ([]) (s1)).2.2.at_-(s1).at_)+1:=gd_at (ih 2 (0) ([]) (s1) (by decide) (nl 2 5 rfl (by decide) (by (try dsimp only);omega)))
   generalize pz zs T f 2 (0) ([]) (s1)=x at hx ⊢
   (try dsimp only at hx)
   unfold Gd;(try simp only [tot_nil,tot_app,tot_node,tot_one,tot_leaf] at *);(try dsimp only at *);omega
  ·rw [if_neg hj]
   have hx:Gd 1 0 1 0 0 ([]) (s) (pz zs T f 3 (0) ([]) (s)):=ih 3 (0) ([]) (s) (by decide) (nd 3 3 4 rfl rfl (by (try dsimp only);omega))
   generalize pz zs T f 3 (0) ([]) (s)=x at hx ⊢
   unfold Gd at hx;(try dsimp only at hx)
   unfold Gd;(try simp only [tot_nil,tot_app,tot_node,tot_one,tot_leaf] at *);(try dsimp only at *);omega
theorem gd_3 {zs:List Int} {T:List (Int×Nat×Nat)} {f:Nat} (ih:Ih zs T f) (n:Int) (ks:List (List Nd)) (s:Ps) (hn0:need T 3 s≤f+1):Gd 1 0 1 0 0 ks s (pz zs T (f+1) 3 n ks s):=by
 have hn:(0≤s.bad∧3≤f+1)∨(s.bad<0∧20*(T.length-s.at_)+4≤f+1):=nx hn0 rfl rfl
 clear hn0
 rw [pz_3]
 unfold pB3
 dsimp only
 by_cases h1:isP zs T s {data:=#[110,105,108]}=true
 ·rw [if_pos h1]
  have gs1:=got_yes h1
  have bs1:=is_bad h1
  generalize got zs T s {data:=#[110,105,108]}=s1 at *
  unfold Gd;(try simp only [tot_nil,tot_app,tot_node,tot_one,tot_leaf] at *);(try dsimp only at *);omega
 ·rw [if_neg h1]
  by_cases h2:isP zs T s {data:=#[116,114,117,101]}=true
  ·rw [if_pos h2]
   have gs1:=got_yes h2
   have bs1:=is_bad h2
   generalize got zs T s {data:=#[116,114,117,101]}=s1 at *
   unfold Gd;(try simp only [tot_nil,tot_app,tot_node,tot_one,tot_leaf] at *);(try dsimp only at *);omega
  ·rw [if_neg h2]
   by_cases h3:isP zs T s {data:=#[102,97,108,115,101]}=true
   ·rw [if_pos h3]
    have gs1:=got_yes h3
    have bs1:=is_bad h3
    generalize got zs T s {data:=#[102,97,108,115,101]}=s1 at *
    unfold Gd;(try simp only [tot_nil,tot_app,tot_node,tot_one,tot_leaf] at *);(try dsimp only at *);omega
   ·rw [if_neg h3]
    by_cases h4:isP zs T s {data:=#[102,117,110,99,116,105,111,110]}=true
    ·rw [if_pos h4]
     have gs1:=got_yes h4
     have bs1:=is_bad h4
     generalize got zs T s {data:=#[102,117,110,99,116,105,111,110]}=s1 at *
     have hx:(s1).at_≤(pz zs T f 8 (0) ([]) (s1)).2.2.at_∧tot (pz zs T f 8 (0) ([]) (s1)).1≤tot ([])+20*((pz zs T f 8 (0) ([]) (s1)).2.2.at_-(s1).at_)+2:=gd_at (ih 8 (0) ([]) (s1) (by decide) (nl 8 3 rfl (by decide) (by (try dsimp only);omega)))
     generalize pz zs T f 8 (0) ([]) (s1)=x at hx ⊢
     (try dsimp only at hx)
     unfold Gd;(try simp only [tot_nil,tot_app,tot_node,tot_one,tot_leaf] at *);(try dsimp only at *);omega
    ·rw [if_neg h4]
     by_cases h5:isP zs T s {data:=#[123]}=true
     ·rw [if_pos h5]
      have hx:Gd 1 0 1 0 0 ([]) (s) (pz zs T f 9 (0) ([]) (s)):=ih 9 (0) ([]) (s) (by decide) (nd 9 2 3 rfl rfl (by (try dsimp only);omega))
      generalize pz zs T f 9 (0) ([]) (s)=x at hx ⊢
      unfold Gd at hx;(try dsimp only at hx)
      unfold Gd;(try simp only [tot_nil,tot_app,tot_node,tot_one,tot_leaf] at *);(try dsimp only at *);omega
     ·rw [if_neg h5]
      by_cases k2:kindP T s=2
      ·rw [if_pos k2]
       have kb:=kind_bad k2 (by decide)
       have gs:(step s).at_=s.at_+1∧(step s).bad=s.bad:=⟨rfl,rfl⟩
       generalize step s=s1 at *
       unfold Gd;(try simp only [tot_nil,tot_app,tot_node,tot_one,tot_leaf] at *);(try dsimp only at *);omega
      ·rw [if_neg k2]
       by_cases k3:kindP T s=3
       ·rw [if_pos k3]
        have kb:=kind_bad k3 (by decide)
        unfold Gd longer;simp only [tot_nil,tot_one,step];omega
       ·rw [if_neg k3]
        have hx:Gd 1 0 1 1 1 ([]) (s) (pz zs T f 4 (0) ([]) (s)):=ih 4 (0) ([]) (s) (by decide) (nd 4 2 3 rfl rfl (by (try dsimp only);omega))
        generalize pz zs T f 4 (0) ([]) (s)=x at hx ⊢
        unfold Gd at hx;(try dsimp only at hx)
        unfold Gd;(try simp only [tot_nil,tot_app,tot_node,tot_one,tot_leaf] at *);(try dsimp only at *);omega
theorem gd_4 {zs:List Int} {T:List (Int×Nat×Nat)} {f:Nat} (ih:Ih zs T f) (n:Int) (ks:List (List Nd)) (s:Ps) (hn0:need T 4 s≤f+1):Gd 1 0 1 1 1 ks s (pz zs T (f+1) 4 n ks s):=by
 have hn:(0≤s.bad∧2≤f+1)∨(s.bad<0∧20*(T.length-s.at_)+3≤f+1):=nx hn0 rfl rfl
 clear hn0
 rw [pz_4]
 unfold pB4
 dsimp only
 by_cases hi:isP zs T s {data:=#[40]}=true
 ·rw [if_pos hi]
  have gs1:=got_yes hi
  have bs1:=is_bad hi
  generalize got zs T s {data:=#[40]}=s1 at *
  have hx:(s1).at_≤(pz zs T f 0 (1) ([]) (s1)).2.2.at_∧tot (pz zs T f 0 (1) ([]) (s1)).1≤tot ([])+20*((pz zs T f 0 (1) ([]) (s1)).2.2.at_-(s1).at_)+1:=gd_at (ih 0 (1) ([]) (s1) (by decide) (nl 0 6 rfl (by decide) (by (try dsimp only);omega)))
  generalize pz zs T f 0 (1) ([]) (s1)=x at hx ⊢
  (try dsimp only at hx)
  have gs2:=want_at zs T x.2.2 {data:=#[41]}
  generalize want zs T x.2.2 {data:=#[41]}=s2 at *
  have hr:(s2).at_≤(pz zs T f 5 (0) (x.1) (s2)).2.2.at_∧tot (pz zs T f 5 (0) (x.1) (s2)).1≤tot (x.1)+20*((pz zs T f 5 (0) (x.1) (s2)).2.2.at_-(s2).at_)+0:=gd_at (ih 5 (0) (x.1) (s2) (by decide) (nl 5 2 rfl (by decide) (by (try dsimp only);omega)))
  generalize pz zs T f 5 (0) (x.1) (s2)=r at hr ⊢
  (try dsimp only at hr)
  unfold Gd;(try simp only [tot_nil,tot_app,tot_node,tot_one,tot_leaf] at *);(try dsimp only at *);omega
 ·rw [if_neg hi]
  have gs1:=name_f zs T s
  generalize nameS zs T s=s1 at *
  have hr:Gd 0 0 0 0 0 ([[Nd.mk 16 0 [] [nameT zs T s] 0]]) (s1) (pz zs T f 5 (116) ([[Nd.mk 16 0 [] [nameT zs T s] 0]]) (s1)):=ih 5 (116) ([[Nd.mk 16 0 [] [nameT zs T s] 0]]) (s1) (by decide) (nd 5 1 2 rfl rfl (by (try dsimp only);omega))
  generalize pz zs T f 5 (116) ([[Nd.mk 16 0 [] [nameT zs T s] 0]]) (s1)=r at hr ⊢
  unfold Gd at hr;(try dsimp only at hr)
  unfold Gd;(try simp only [tot_nil,tot_app,tot_node,tot_one,tot_leaf] at *);(try dsimp only at *);omega
theorem gd_5 {zs:List Int} {T:List (Int×Nat×Nat)} {f:Nat} (ih:Ih zs T f) (n:Int) (ks:List (List Nd)) (s:Ps) (hn0:need T 5 s≤f+1):Gd 0 0 0 0 0 ks s (pz zs T (f+1) 5 n ks s):=by
 have hn:(0≤s.bad∧1≤f+1)∨(s.bad<0∧20*(T.length-s.at_)+2≤f+1):=nx hn0 rfl rfl
 clear hn0
 rw [pz_5]
 unfold pB5
 dsimp only
 by_cases hb:0≤s.bad
 ·rw [if_pos hb]
  unfold Gd;(try simp only [tot_nil,tot_app,tot_node,tot_one,tot_leaf] at *);(try dsimp only at *);omega
 ·rw [if_neg hb]
  by_cases h1:isP zs T s {data:=#[46]}=true
  ·rw [if_pos h1]
   have gs1:=got_yes h1
   have bs1:=is_bad h1
   generalize got zs T s {data:=#[46]}=s1 at *
   generalize nameT zs T s1=nt
   have gs2:=name_at zs T s1
   generalize nameS zs T s1=s2 at *
   have hr:(s2).at_≤(pz zs T f 5 (116) ([tk.node (bare 17) (ks++[[Nd.mk 15 0 nt [] 0]])]) (s2)).2.2.at_∧tot (pz zs T f 5 (116) ([tk.node (bare 17) (ks++[[Nd.mk 15 0 nt [] 0]])]) (s2)).1≤tot ([tk.node (bare 17) (ks++[[Nd.mk 15 0 nt [] 0]])])+20*((pz zs T f 5 (116) ([tk.node (bare 17) (ks++[[Nd.mk 15 0 nt [] 0]])]) (s2)).2.2.at_-(s2).at_)+0:=gd_at (ih 5 (116) ([tk.node (bare 17) (ks++[[Nd.mk 15 0 nt [] 0]])]) (s2) (by decide) (nl 5 2 rfl (by decide) (by (try dsimp only);omega)))
   generalize pz zs T f 5 (116) ([tk.node (bare 17) (ks++[[Nd.mk 15 0 nt [] 0]])]) (s2)=r at hr ⊢
   (try dsimp only at hr)
   unfold Gd;(try simp only [tot_nil,tot_app,tot_node,tot_one,tot_leaf] at *);(try dsimp only at *);omega
  ·rw [if_neg h1]
   by_cases h2:isP zs T s {data:=#[91]}=true
   ·rw [if_pos h2]
    have gs1:=got_yes h2
    have bs1:=is_bad h2
    generalize got zs T s {data:=#[91]}=s1 at *
    have hy:(s1).at_≤(pz zs T f 0 (1) ([]) (s1)).2.2.at_∧tot (pz zs T f 0 (1) ([]) (s1)).1≤tot ([])+20*((pz zs T f 0 (1) ([]) (s1)).2.2.at_-(s1).at_)+1:=gd_at (ih 0 (1) ([]) (s1) (by decide) (nl 0 6 rfl (by decide) (by (try dsimp only);omega)))
    generalize pz zs T f 0 (1) ([]) (s1)=y at hy ⊢
    (try dsimp only at hy)
    have gs2:=want_at zs T y.2.2 {data:=#[93]}
    generalize want zs T y.2.2 {data:=#[93]}=s2 at *
    have hr:(s2).at_≤(pz zs T f 5 (116) ([tk.node (bare 17) (ks++y.1)]) (s2)).2.2.at_∧tot (pz zs T f 5 (116) ([tk.node (bare 17) (ks++y.1)]) (s2)).1≤tot ([tk.node (bare 17) (ks++y.1)])+20*((pz zs T f 5 (116) ([tk.node (bare 17) (ks++y.1)]) (s2)).2.2.at_-(s2).at_)+0:=gd_at (ih 5 (116) ([tk.node (bare 17) (ks++y.1)]) (s2) (by decide) (nl 5 2 rfl (by decide) (by (try dsimp only);omega)))
    generalize pz zs T f 5 (116) ([tk.node (bare 17) (ks++y.1)]) (s2)=r at hr ⊢
    (try dsimp only at hr)
    unfold Gd;(try simp only [tot_nil,tot_app,tot_node,tot_one,tot_leaf] at *);(try dsimp only at *);omega
   ·rw [if_neg h2]
    by_cases h3:isP zs T s {data:=#[40]}=true
    ·rw [if_pos h3]
     have gs1:=got_yes h3
     have bs1:=is_bad h3
     generalize got zs T s {data:=#[40]}=s1 at *
     by_cases h4:isP zs T s1 {data:=#[41]}=true
     ·simp only [if_pos h4]
      have gs2:=want_at zs T s1 {data:=#[41]}
      generalize want zs T s1 {data:=#[41]}=s2 at *
      have hr:(s2).at_≤(pz zs T f 5 (99) ([tk.node (bare 18) ks]) (s2)).2.2.at_∧tot (pz zs T f 5 (99) ([tk.node (bare 18) ks]) (s2)).1≤tot ([tk.node (bare 18) ks])+20*((pz zs T f 5 (99) ([tk.node (bare 18) ks]) (s2)).2.2.at_-(s2).at_)+0:=gd_at (ih 5 (99) ([tk.node (bare 18) ks]) (s2) (by decide) (nl 5 2 rfl (by decide) (by (try dsimp only);omega)))
      generalize pz zs T f 5 (99) ([tk.node (bare 18) ks]) (s2)=r at hr ⊢
      (try dsimp only at hr)
      unfold Gd;(try simp only [tot_nil,tot_app,tot_node,tot_one,tot_leaf] at *);(try dsimp only at *);omega
     ·simp only [if_neg h4]
      have hz:(s1).at_≤(pz zs T f 6 (0) ([]) (s1)).2.2.at_∧tot (pz zs T f 6 (0) ([]) (s1)).1≤tot ([])+20*((pz zs T f 6 (0) ([]) (s1)).2.2.at_-(s1).at_)+1:=gd_at (ih 6 (0) ([]) (s1) (by decide) (nl 6 7 rfl (by decide) (by (try dsimp only);omega)))
      generalize pz zs T f 6 (0) ([]) (s1)=z at hz ⊢
      (try dsimp only at hz)
      have gs2:=want_at zs T z.2.2 {data:=#[41]}
      generalize want zs T z.2.2 {data:=#[41]}=s2 at *
      have hr:(s2).at_≤(pz zs T f 5 (99) ([tk.node (bare 18) (ks++z.1)]) (s2)).2.2.at_∧tot (pz zs T f 5 (99) ([tk.node (bare 18) (ks++z.1)]) (s2)).1≤tot ([tk.node (bare 18) (ks++z.1)])+20*((pz zs T f 5 (99) ([tk.node (bare 18) (ks++z.1)]) (s2)).2.2.at_-(s2).at_)+0:=gd_at (ih 5 (99) ([tk.node (bare 18) (ks++z.1)]) (s2) (by decide) (nl 5 2 rfl (by decide) (by (try dsimp only);omega)))
      generalize pz zs T f 5 (99) ([tk.node (bare 18) (ks++z.1)]) (s2)=r at hr ⊢
      (try dsimp only at hr)
      unfold Gd;(try simp only [tot_nil,tot_app,tot_node,tot_one,tot_leaf] at *);(try dsimp only at *);omega
    ·rw [if_neg h3]
     unfold Gd;(try simp only [tot_nil,tot_app,tot_node,tot_one,tot_leaf] at *);(try dsimp only at *);omega
theorem gd_6 {zs:List Int} {T:List (Int×Nat×Nat)} {f:Nat} (ih:Ih zs T f) (n:Int) (ks:List (List Nd)) (s:Ps) (hn0:need T 6 s≤f+1):Gd 1 0 1 0 0 ks s (pz zs T (f+1) 6 n ks s):=by
 have hn:(0≤s.bad∧6≤f+1)∨(s.bad<0∧20*(T.length-s.at_)+7≤f+1):=nx hn0 rfl rfl
 clear hn0
 rw [pz_6]
 unfold pB6
 dsimp only
 have hx:Gd 1 0 1 0 0 ([]) (s) (pz zs T f 0 (1) ([]) (s)):=ih 0 (1) ([]) (s) (by decide) (nd 0 5 6 rfl rfl (by (try dsimp only);omega))
 generalize pz zs T f 0 (1) ([]) (s)=x at hx ⊢
 unfold Gd at hx;(try dsimp only at hx)
 have hy:Gd 0 0 0 0 0 (x.1) (x.2.2) (pz zs T f 7 (0) (x.1) (x.2.2)):=ih 7 (0) (x.1) (x.2.2) (by decide) (nd 7 1 6 rfl rfl (by (try dsimp only);omega))
 generalize pz zs T f 7 (0) (x.1) (x.2.2)=y at hy ⊢
 unfold Gd at hy;(try dsimp only at hy)
 unfold longer
 unfold Gd;(try simp only [tot_nil,tot_app,tot_node,tot_one,tot_leaf] at *);(try dsimp only at *);omega
theorem gd_7 {zs:List Int} {T:List (Int×Nat×Nat)} {f:Nat} (ih:Ih zs T f) (n:Int) (ks:List (List Nd)) (s:Ps) (hn0:need T 7 s≤f+1):Gd 0 0 0 0 0 ks s (pz zs T (f+1) 7 n ks s):=by
 have hn:(0≤s.bad∧1≤f+1)∨(s.bad<0∧20*(T.length-s.at_)+6≤f+1):=nx hn0 rfl rfl
 clear hn0
 rw [pz_7]
 unfold pB7
 dsimp only
 by_cases hi:isP zs T s {data:=#[44]}=true
 ·rw [if_pos hi]
  have gs1:=got_yes hi
  have bs1:=is_bad hi
  generalize got zs T s {data:=#[44]}=s1 at *
  have hx:(s1).at_≤(pz zs T f 0 (1) ([]) (s1)).2.2.at_∧tot (pz zs T f 0 (1) ([]) (s1)).1≤tot ([])+20*((pz zs T f 0 (1) ([]) (s1)).2.2.at_-(s1).at_)+1:=gd_at (ih 0 (1) ([]) (s1) (by decide) (nl 0 6 rfl (by decide) (by (try dsimp only);omega)))
  generalize pz zs T f 0 (1) ([]) (s1)=x at hx ⊢
  (try dsimp only at hx)
  have hr:(x.2.2).at_≤(pz zs T f 7 (0) (ks++x.1) (x.2.2)).2.2.at_∧tot (pz zs T f 7 (0) (ks++x.1) (x.2.2)).1≤tot (ks++x.1)+20*((pz zs T f 7 (0) (ks++x.1) (x.2.2)).2.2.at_-(x.2.2).at_)+0:=gd_at (ih 7 (0) (ks++x.1) (x.2.2) (by decide) (nl 7 6 rfl (by decide) (by (try dsimp only);omega)))
  generalize pz zs T f 7 (0) (ks++x.1) (x.2.2)=r at hr ⊢
  (try dsimp only at hr)
  unfold Gd;(try simp only [tot_nil,tot_app,tot_node,tot_one,tot_leaf] at *);(try dsimp only at *);omega
 ·rw [if_neg hi]
  unfold Gd;(try simp only [tot_nil,tot_app,tot_node,tot_one,tot_leaf] at *);(try dsimp only at *);omega
theorem gd_8 {zs:List Int} {T:List (Int×Nat×Nat)} {f:Nat} (ih:Ih zs T f) (n:Int) (ks:List (List Nd)) (s:Ps) (hn0:need T 8 s≤f+1):Gd 2 0 2 0 0 ks s (pz zs T (f+1) 8 n ks s):=by
 have hn:(0≤s.bad∧3≤f+1)∨(s.bad<0∧20*(T.length-s.at_)+3≤f+1):=nx hn0 rfl rfl
 clear hn0
 rw [pz_8]
 unfold pB8
 dsimp only
 have gs1:=want_f zs T s {data:=#[40]}
 generalize want zs T s {data:=#[40]}=s1 at *
 by_cases hi:isP zs T s1 {data:=#[41]}=true
 ·simp only [if_pos hi]
  have gs2:=want_f zs T s1 {data:=#[41]}
  generalize want zs T s1 {data:=#[41]}=s2 at *
  have hb:Gd 3 1 1 0 0 ([]) ({s2 with loop:=false}) (pz zs T f 11 (0) ([]) ({s2 with loop:=false})):=ih 11 (0) ([]) ({s2 with loop:=false}) (by decide) (nd 11 2 11 rfl rfl (by (try dsimp only);omega))
  generalize pz zs T f 11 (0) ([]) ({s2 with loop:=false})=b at hb ⊢
  unfold Gd at hb;(try dsimp only at hb)
  have gb:=want_f zs T {b.2.2 with loop:=s2.loop} {data:=#[101,110,100]}
  generalize want zs T {b.2.2 with loop:=s2.loop} {data:=#[101,110,100]}=s3 at *
  unfold Gd;(try simp only [tot_nil,tot_app,tot_node,tot_one,tot_leaf] at *);(try dsimp only at *);omega
 ·simp only [if_neg hi]
  have gm:=names_f zs T s1
  generalize names zs T s1=m at *
  have gs2:=want_f zs T m.2 {data:=#[41]}
  generalize want zs T m.2 {data:=#[41]}=s2 at *
  have hb:Gd 3 1 1 0 0 ([]) ({s2 with loop:=false}) (pz zs T f 11 (0) ([]) ({s2 with loop:=false})):=ih 11 (0) ([]) ({s2 with loop:=false}) (by decide) (nd 11 2 11 rfl rfl (by (try dsimp only);omega))
  generalize pz zs T f 11 (0) ([]) ({s2 with loop:=false})=b at hb ⊢
  unfold Gd at hb;(try dsimp only at hb)
  have gb:=want_f zs T {b.2.2 with loop:=s2.loop} {data:=#[101,110,100]}
  generalize want zs T {b.2.2 with loop:=s2.loop} {data:=#[101,110,100]}=s3 at *
  unfold Gd;(try simp only [tot_nil,tot_app,tot_node,tot_one,tot_leaf] at *);(try dsimp only at *);omega
theorem gd_9 {zs:List Int} {T:List (Int×Nat×Nat)} {f:Nat} (ih:Ih zs T f) (n:Int) (ks:List (List Nd)) (s:Ps) (hn0:need T 9 s≤f+1):Gd 1 0 1 0 0 ks s (pz zs T (f+1) 9 n ks s):=by
 have hn:(0≤s.bad∧2≤f+1)∨(s.bad<0∧20*(T.length-s.at_)+3≤f+1):=nx hn0 rfl rfl
 clear hn0
 rw [pz_9]
 unfold pB9
 dsimp only
 have gs1:=want_f zs T s {data:=#[123]}
 generalize want zs T s {data:=#[123]}=s1 at *
 have hy:Gd 2 1 0 0 0 ([]) (s1) (pz zs T f 10 (0) ([]) (s1)):=ih 10 (0) ([]) (s1) (by decide) (nd 10 1 7 rfl rfl (by (try dsimp only);omega))
 generalize pz zs T f 10 (0) ([]) (s1)=y at hy ⊢
 unfold Gd at hy;(try dsimp only at hy)
 have gs2:=want_f zs T y.2.2 {data:=#[125]}
 generalize want zs T y.2.2 {data:=#[125]}=s2 at *
 unfold Gd;(try simp only [tot_nil,tot_app,tot_node,tot_one,tot_leaf] at *);(try dsimp only at *);omega
theorem gd_10 {zs:List Int} {T:List (Int×Nat×Nat)} {f:Nat} (ih:Ih zs T f) (n:Int) (ks:List (List Nd)) (s:Ps) (hn0:need T 10 s≤f+1):Gd 2 1 0 0 0 ks s (pz zs T (f+1) 10 n ks s):=by
 have hn:(0≤s.bad∧1≤f+1)∨(s.bad<0∧20*(T.length-s.at_)+7≤f+1):=nx hn0 rfl rfl
 clear hn0
 rw [pz_10]
 unfold pB10
 dsimp only
 by_cases hb:0≤s.bad∨isP zs T s {data:=#[125]}=true
 ·rw [if_pos hb]
  unfold Gd;(try simp only [tot_nil,tot_app,tot_node,tot_one,tot_leaf] at *);(try dsimp only at *);omega
 ·rw [if_neg hb]
  have hb2:¬0≤s.bad:=fun h=>hb (.inl h)
  clear hb
  by_cases hn:named zs T s=true
  ·simp only [if_pos hn]
   have hk:kindP T s=1:=by unfold named at hn;simp at hn;exact hn.1.1
   have kb:=kind_bad hk (by decide)
   have nS:(nameS zs T s).at_=s.at_+1∧(nameS zs T s).bad=s.bad:=by unfold nameS;rw [if_pos hk];exact ⟨rfl,rfl⟩
   generalize nameT zs T s=nt
   generalize nameS zs T s=s1 at *
   have gs2:=want_f zs T s1 {data:=#[61]}
   generalize want zs T s1 {data:=#[61]}=s2 at *
   have hy:Gd 1 0 1 0 0 ([]) (s2) (pz zs T f 0 (1) ([]) (s2)):=ih 0 (1) ([]) (s2) (by decide) (nd 0 5 6 rfl rfl (by (try dsimp only);omega))
   generalize pz zs T f 0 (1) ([]) (s2)=y at hy ⊢
   unfold Gd at hy;(try dsimp only at hy)
   by_cases hc:isP zs T y.2.2 {data:=#[44]}=true
   ·rw [if_pos hc]
    have gs9:=got_yes hc
    have bs9:=is_bad hc
    generalize got zs T y.2.2 {data:=#[44]}=s9 at *
    have hr:(s9).at_≤(pz zs T f 10 (n) (ks++[[Nd.mk 15 0 nt [] 0]]++y.1) (s9)).2.2.at_∧tot (pz zs T f 10 (n) (ks++[[Nd.mk 15 0 nt [] 0]]++y.1) (s9)).1≤tot (ks++[[Nd.mk 15 0 nt [] 0]]++y.1)+20*((pz zs T f 10 (n) (ks++[[Nd.mk 15 0 nt [] 0]]++y.1) (s9)).2.2.at_-(s9).at_)+2:=gd_at (ih 10 (n) (ks++[[Nd.mk 15 0 nt [] 0]]++y.1) (s9) (by decide) (nl 10 7 rfl (by decide) (by (try dsimp only);omega)))
    generalize pz zs T f 10 (n) (ks++[[Nd.mk 15 0 nt [] 0]]++y.1) (s9)=r at hr ⊢
    (try dsimp only at hr)
    unfold Gd;(try simp only [tot_nil,tot_app,tot_node,tot_one,tot_leaf] at *);(try dsimp only at *);omega
   ·rw [if_neg hc]
    unfold Gd;(try simp only [tot_nil,tot_app,tot_node,tot_one,tot_leaf] at *);(try dsimp only at *);omega
  ·simp only [if_neg hn]
   by_cases hi:isP zs T s {data:=#[91]}=true
   ·simp only [if_pos hi]
    have gs1:=got_yes hi
    have bs1:=is_bad hi
    generalize got zs T s {data:=#[91]}=s1 at *
    have hz:(s1).at_≤(pz zs T f 0 (1) ([]) (s1)).2.2.at_∧tot (pz zs T f 0 (1) ([]) (s1)).1≤tot ([])+20*((pz zs T f 0 (1) ([]) (s1)).2.2.at_-(s1).at_)+1:=gd_at (ih 0 (1) ([]) (s1) (by decide) (nl 0 6 rfl (by decide) (by (try dsimp only);omega)))
    generalize pz zs T f 0 (1) ([]) (s1)=z at hz ⊢
    (try dsimp only at hz)
    have gs2:=want_at zs T z.2.2 {data:=#[93]}
    generalize want zs T z.2.2 {data:=#[93]}=s2 at *
    have gs3:=want_at zs T s2 {data:=#[61]}
    generalize want zs T s2 {data:=#[61]}=s3 at *
    have hy:(s3).at_≤(pz zs T f 0 (1) ([]) (s3)).2.2.at_∧tot (pz zs T f 0 (1) ([]) (s3)).1≤tot ([])+20*((pz zs T f 0 (1) ([]) (s3)).2.2.at_-(s3).at_)+1:=gd_at (ih 0 (1) ([]) (s3) (by decide) (nl 0 6 rfl (by decide) (by (try dsimp only);omega)))
    generalize pz zs T f 0 (1) ([]) (s3)=y at hy ⊢
    (try dsimp only at hy)
    by_cases hc:isP zs T y.2.2 {data:=#[44]}=true
    ·rw [if_pos hc]
     have gs9:=got_yes hc
     have bs9:=is_bad hc
     generalize got zs T y.2.2 {data:=#[44]}=s9 at *
     have hr:(s9).at_≤(pz zs T f 10 (n) (ks++z.1++y.1) (s9)).2.2.at_∧tot (pz zs T f 10 (n) (ks++z.1++y.1) (s9)).1≤tot (ks++z.1++y.1)+20*((pz zs T f 10 (n) (ks++z.1++y.1) (s9)).2.2.at_-(s9).at_)+2:=gd_at (ih 10 (n) (ks++z.1++y.1) (s9) (by decide) (nl 10 7 rfl (by decide) (by (try dsimp only);omega)))
     generalize pz zs T f 10 (n) (ks++z.1++y.1) (s9)=r at hr ⊢
     (try dsimp only at hr)
     unfold Gd;(try simp only [tot_nil,tot_app,tot_node,tot_one,tot_leaf] at *);(try dsimp only at *);omega
    ·rw [if_neg hc]
     unfold Gd;(try simp only [tot_nil,tot_app,tot_node,tot_one,tot_leaf] at *);(try dsimp only at *);omega
   ·simp only [if_neg hi]
    have hy:Gd 1 0 1 0 0 ([]) (s) (pz zs T f 0 (1) ([]) (s)):=ih 0 (1) ([]) (s) (by decide) (nd 0 5 6 rfl rfl (by (try dsimp only);omega))
    generalize pz zs T f 0 (1) ([]) (s)=y at hy ⊢
    unfold Gd at hy;(try dsimp only at hy)
    by_cases hc:isP zs T y.2.2 {data:=#[44]}=true
    ·rw [if_pos hc]
     have gs9:=got_yes hc
     have bs9:=is_bad hc
     generalize got zs T y.2.2 {data:=#[44]}=s9 at *
     have hr:(s9).at_≤(pz zs T f 10 (n+1) (ks++[[Nd.mk 14 (n+1) [] [] 0]]++y.1) (s9)).2.2.at_∧tot (pz zs T f 10 (n+1) (ks++[[Nd.mk 14 (n+1) [] [] 0]]++y.1) (s9)).1≤tot (ks++[[Nd.mk 14 (n+1) [] [] 0]]++y.1)+20*((pz zs T f 10 (n+1) (ks++[[Nd.mk 14 (n+1) [] [] 0]]++y.1) (s9)).2.2.at_-(s9).at_)+2:=gd_at (ih 10 (n+1) (ks++[[Nd.mk 14 (n+1) [] [] 0]]++y.1) (s9) (by decide) (nl 10 7 rfl (by decide) (by (try dsimp only);omega)))
     generalize pz zs T f 10 (n+1) (ks++[[Nd.mk 14 (n+1) [] [] 0]]++y.1) (s9)=r at hr ⊢
     (try dsimp only at hr)
     unfold Gd;(try simp only [tot_nil,tot_app,tot_node,tot_one,tot_leaf] at *);(try dsimp only at *);omega
    ·rw [if_neg hc]
     unfold Gd;(try simp only [tot_nil,tot_app,tot_node,tot_one,tot_leaf] at *);(try dsimp only at *);omega
theorem gd_11 {zs:List Int} {T:List (Int×Nat×Nat)} {f:Nat} (ih:Ih zs T f) (n:Int) (ks:List (List Nd)) (s:Ps) (hn0:need T 11 s≤f+1):Gd 3 1 1 0 0 ks s (pz zs T (f+1) 11 n ks s):=by
 have hn:(0≤s.bad∧2≤f+1)∨(s.bad<0∧20*(T.length-s.at_)+11≤f+1):=nx hn0 rfl rfl
 clear hn0
 rw [pz_11]
 unfold pB11
 dsimp only
 have hy:Gd 2 0 0 0 0 ([]) (s) (pz zs T f 12 (0) ([]) (s)):=ih 12 (0) ([]) (s) (by decide) (nd 12 1 10 rfl rfl (by (try dsimp only);omega))
 generalize pz zs T f 12 (0) ([]) (s)=y at hy ⊢
 unfold Gd at hy;(try dsimp only at hy)
 unfold Gd;(try simp only [tot_nil,tot_app,tot_node,tot_one,tot_leaf] at *);(try dsimp only at *);omega
theorem gd_12 {zs:List Int} {T:List (Int×Nat×Nat)} {f:Nat} (ih:Ih zs T f) (n:Int) (ks:List (List Nd)) (s:Ps) (hn0:need T 12 s≤f+1):Gd 2 0 0 0 0 ks s (pz zs T (f+1) 12 n ks s):=by
 have hn:(0≤s.bad∧1≤f+1)∨(s.bad<0∧20*(T.length-s.at_)+10≤f+1):=nx hn0 rfl rfl
 clear hn0
 rw [pz_12]
 unfold pB12
 dsimp only
 by_cases he:ends zs T s=true
 ·rw [if_pos he]
  unfold Gd;(try simp only [tot_nil,tot_app,tot_node,tot_one,tot_leaf] at *);(try dsimp only at *);omega
 ·rw [if_neg he]
  have hb:=ends_bad he
  by_cases h1:isP zs T s {data:=#[114,101,116,117,114,110]}=true
  ·rw [if_pos h1]
   have gs1:=got_yes h1
   have bs1:=is_bad h1
   generalize got zs T s {data:=#[114,101,116,117,114,110]}=s1 at *
   by_cases hs:starts zs T s1=true
   ·simp only [if_pos hs]
    have hy:(s1).at_≤(pz zs T f 6 (0) ([]) (s1)).2.2.at_∧tot (pz zs T f 6 (0) ([]) (s1)).1≤tot ([])+20*((pz zs T f 6 (0) ([]) (s1)).2.2.at_-(s1).at_)+1:=gd_at (ih 6 (0) ([]) (s1) (by decide) (nl 6 7 rfl (by decide) (by (try dsimp only);omega)))
    generalize pz zs T f 6 (0) ([]) (s1)=y at hy ⊢
    (try dsimp only at hy)
    have g9:=got_at zs T y.2.2 {data:=#[59]}
    generalize got zs T y.2.2 {data:=#[59]}=s9 at *
    unfold Gd;(try simp only [tot_nil,tot_app,tot_node,tot_one,tot_leaf] at *);(try dsimp only at *);omega
   ·simp only [if_neg hs]
    have g9:=got_at zs T s1 {data:=#[59]}
    generalize got zs T s1 {data:=#[59]}=s9 at *
    unfold Gd;(try simp only [tot_nil,tot_app,tot_node,tot_one,tot_leaf] at *);(try dsimp only at *);omega
  ·rw [if_neg h1]
   by_cases hk:(s.loop&&isP zs T s {data:=#[98,114,101,97,107]})=true
   ·rw [if_pos hk]
    have hk2:isP zs T s {data:=#[98,114,101,97,107]}=true:=by simp only [Bool.and_eq_true] at hk;exact hk.2
    clear hk
    have gs1:=got_yes hk2
    have bs1:=is_bad hk2
    generalize got zs T s {data:=#[98,114,101,97,107]}=s1 at *
    have g9:=got_at zs T s1 {data:=#[59]}
    generalize got zs T s1 {data:=#[59]}=s9 at *
    unfold Gd;(try simp only [tot_nil,tot_app,tot_node,tot_one,tot_leaf] at *);(try dsimp only at *);omega
   ·rw [if_neg hk]
    have hy:Gd 2 0 2 0 1 ([]) (s) (pz zs T f 13 (0) ([]) (s)):=ih 13 (0) ([]) (s) (by decide) (nd 13 4 9 rfl rfl (by (try dsimp only);omega))
    generalize pz zs T f 13 (0) ([]) (s)=y at hy ⊢
    unfold Gd at hy;(try dsimp only at hy)
    have g9:=got_or zs T y.2.2 {data:=#[59]}
    generalize got zs T y.2.2 {data:=#[59]}=s9 at *
    have hr:Gd 2 0 0 0 0 (ks++y.1) (s9) (pz zs T f 12 (0) (ks++y.1) (s9)):=ih 12 (0) (ks++y.1) (s9) (by decide) (nd 12 1 10 rfl rfl (by (try dsimp only);omega))
    generalize pz zs T f 12 (0) (ks++y.1) (s9)=r at hr ⊢
    unfold Gd at hr;(try dsimp only at hr)
    unfold Gd;(try simp only [tot_nil,tot_app,tot_node,tot_one,tot_leaf] at *);(try dsimp only at *);omega
theorem gd_13 {zs:List Int} {T:List (Int×Nat×Nat)} {f:Nat} (ih:Ih zs T f) (n:Int) (ks:List (List Nd)) (s:Ps) (hn0:need T 13 s≤f+1):Gd 2 0 2 0 1 ks s (pz zs T (f+1) 13 n ks s):=by
 have hn:(0≤s.bad∧4≤f+1)∨(s.bad<0∧20*(T.length-s.at_)+9≤f+1):=nx hn0 rfl rfl
 clear hn0
 rw [pz_13]
 unfold pB13
 dsimp only
 by_cases h1:isP zs T s {data:=#[108,111,99,97,108]}=true
 ·rw [if_pos h1]
  have gs1:=got_yes h1
  have bs1:=is_bad h1
  generalize got zs T s {data:=#[108,111,99,97,108]}=s1 at *
  by_cases hf:isP zs T s1 {data:=#[102,117,110,99,116,105,111,110]}=true
  ·rw [if_pos hf]
   have gs2:=got_yes hf
   have bs2:=is_bad hf
   generalize got zs T s1 {data:=#[102,117,110,99,116,105,111,110]}=s2 at *
   generalize nameT zs T s2=nt
   have gs3:=name_at zs T s2
   generalize nameS zs T s2=s3 at *
   have hx:(s3).at_≤(pz zs T f 8 (0) ([]) (s3)).2.2.at_∧tot (pz zs T f 8 (0) ([]) (s3)).1≤tot ([])+20*((pz zs T f 8 (0) ([]) (s3)).2.2.at_-(s3).at_)+2:=gd_at (ih 8 (0) ([]) (s3) (by decide) (nl 8 3 rfl (by decide) (by (try dsimp only);omega)))
   generalize pz zs T f 8 (0) ([]) (s3)=x at hx ⊢
   (try dsimp only at hx)
   unfold Gd;(try simp only [tot_nil,tot_app,tot_node,tot_one,tot_leaf] at *);(try dsimp only at *);omega
  ·rw [if_neg hf]
   have gm:=names_f zs T s1
   generalize names zs T s1=m at *
   by_cases hq:isP zs T m.2 {data:=#[61]}=true
   ·simp only [if_pos hq]
    have gs2:=got_yes hq
    have bs2:=is_bad hq
    generalize got zs T m.2 {data:=#[61]}=s2 at *
    have hy:(s2).at_≤(pz zs T f 6 (0) ([]) (s2)).2.2.at_∧tot (pz zs T f 6 (0) ([]) (s2)).1≤tot ([])+20*((pz zs T f 6 (0) ([]) (s2)).2.2.at_-(s2).at_)+1:=gd_at (ih 6 (0) ([]) (s2) (by decide) (nl 6 7 rfl (by decide) (by (try dsimp only);omega)))
    generalize pz zs T f 6 (0) ([]) (s2)=y at hy ⊢
    (try dsimp only at hy)
    unfold Gd;(try simp only [tot_nil,tot_app,tot_node,tot_one,tot_leaf] at *);(try dsimp only at *);omega
   ·simp only [if_neg hq]
    unfold Gd;(try simp only [tot_nil,tot_app,tot_node,tot_one,tot_leaf] at *);(try dsimp only at *);omega
 ·rw [if_neg h1]
  by_cases h2:isP zs T s {data:=#[100,111]}=true
  ·rw [if_pos h2]
   have gs1:=got_yes h2
   have bs1:=is_bad h2
   generalize got zs T s {data:=#[100,111]}=s1 at *
   have hb:(s1).at_≤(pz zs T f 11 (0) ([]) (s1)).2.2.at_∧tot (pz zs T f 11 (0) ([]) (s1)).1≤tot ([])+20*((pz zs T f 11 (0) ([]) (s1)).2.2.at_-(s1).at_)+3:=gd_at (ih 11 (0) ([]) (s1) (by decide) (nl 11 11 rfl (by decide) (by (try dsimp only);omega)))
   generalize pz zs T f 11 (0) ([]) (s1)=b at hb ⊢
   (try dsimp only at hb)
   have gs2:=want_at zs T b.2.2 {data:=#[101,110,100]}
   generalize want zs T b.2.2 {data:=#[101,110,100]}=s2 at *
   unfold Gd;(try simp only [tot_nil,tot_app,tot_node,tot_one,tot_leaf] at *);(try dsimp only at *);omega
  ·rw [if_neg h2]
   by_cases h3:isP zs T s {data:=#[119,104,105,108,101]}=true
   ·rw [if_pos h3]
    have gs1:=got_yes h3
    have bs1:=is_bad h3
    generalize got zs T s {data:=#[119,104,105,108,101]}=s1 at *
    have hc:(s1).at_≤(pz zs T f 0 (1) ([]) (s1)).2.2.at_∧tot (pz zs T f 0 (1) ([]) (s1)).1≤tot ([])+20*((pz zs T f 0 (1) ([]) (s1)).2.2.at_-(s1).at_)+1:=gd_at (ih 0 (1) ([]) (s1) (by decide) (nl 0 6 rfl (by decide) (by (try dsimp only);omega)))
    generalize pz zs T f 0 (1) ([]) (s1)=c at hc ⊢
    (try dsimp only at hc)
    have gs2:=want_at zs T c.2.2 {data:=#[100,111]}
    generalize want zs T c.2.2 {data:=#[100,111]}=s2 at *
    have hb:({s2 with loop:=true}).at_≤(pz zs T f 11 (0) ([]) ({s2 with loop:=true})).2.2.at_∧tot (pz zs T f 11 (0) ([]) ({s2 with loop:=true})).1≤tot ([])+20*((pz zs T f 11 (0) ([]) ({s2 with loop:=true})).2.2.at_-({s2 with loop:=true}).at_)+3:=gd_at (ih 11 (0) ([]) ({s2 with loop:=true}) (by decide) (nl 11 11 rfl (by decide) (by (try dsimp only);omega)))
    generalize pz zs T f 11 (0) ([]) ({s2 with loop:=true})=b at hb ⊢
    (try dsimp only at hb)
    have gs3:=want_at zs T {b.2.2 with loop:=s2.loop} {data:=#[101,110,100]}
    generalize want zs T {b.2.2 with loop:=s2.loop} {data:=#[101,110,100]}=s3 at *
    (try dsimp only at gs3)
    unfold Gd;(try simp only [tot_nil,tot_app,tot_node,tot_one,tot_leaf] at *);(try dsimp only at *);omega
   ·rw [if_neg h3]
    by_cases h4:isP zs T s {data:=#[114,101,112,101,97,116]}=true
    ·rw [if_pos h4]
     have gs1:=got_yes h4
     have bs1:=is_bad h4
     generalize got zs T s {data:=#[114,101,112,101,97,116]}=s1 at *
     have hb:({s1 with loop:=true}).at_≤(pz zs T f 11 (0) ([]) ({s1 with loop:=true})).2.2.at_∧tot (pz zs T f 11 (0) ([]) ({s1 with loop:=true})).1≤tot ([])+20*((pz zs T f 11 (0) ([]) ({s1 with loop:=true})).2.2.at_-({s1 with loop:=true}).at_)+3:=gd_at (ih 11 (0) ([]) ({s1 with loop:=true}) (by decide) (nl 11 11 rfl (by decide) (by (try dsimp only);omega)))
     generalize pz zs T f 11 (0) ([]) ({s1 with loop:=true})=b at hb ⊢
     (try dsimp only at hb)
     have gs2:=want_at zs T {b.2.2 with loop:=s1.loop} {data:=#[117,110,116,105,108]}
     generalize want zs T {b.2.2 with loop:=s1.loop} {data:=#[117,110,116,105,108]}=s2 at *
     (try dsimp only at gs2)
     have hc:(s2).at_≤(pz zs T f 0 (1) ([]) (s2)).2.2.at_∧tot (pz zs T f 0 (1) ([]) (s2)).1≤tot ([])+20*((pz zs T f 0 (1) ([]) (s2)).2.2.at_-(s2).at_)+1:=gd_at (ih 0 (1) ([]) (s2) (by decide) (nl 0 6 rfl (by decide) (by (try dsimp only);omega)))
     generalize pz zs T f 0 (1) ([]) (s2)=c at hc ⊢
     (try dsimp only at hc)
     unfold Gd;(try simp only [tot_nil,tot_app,tot_node,tot_one,tot_leaf] at *);(try dsimp only at *);omega
    ·rw [if_neg h4]
     by_cases h5:isP zs T s {data:=#[105,102]}=true
     ·rw [if_pos h5]
      have gs1:=got_yes h5
      have bs1:=is_bad h5
      generalize got zs T s {data:=#[105,102]}=s1 at *
      have hx:(s1).at_≤(pz zs T f 14 (0) ([]) (s1)).2.2.at_∧tot (pz zs T f 14 (0) ([]) (s1)).1≤tot ([])+20*((pz zs T f 14 (0) ([]) (s1)).2.2.at_-(s1).at_)+10:=gd_at (ih 14 (0) ([]) (s1) (by decide) (nl 14 8 rfl (by decide) (by (try dsimp only);omega)))
      generalize pz zs T f 14 (0) ([]) (s1)=x at hx ⊢
      (try dsimp only at hx)
      unfold Gd;(try simp only [tot_nil,tot_app,tot_node,tot_one,tot_leaf] at *);(try dsimp only at *);omega
     ·rw [if_neg h5]
      by_cases h6:isP zs T s {data:=#[102,111,114]}=true
      ·rw [if_pos h6]
       have gs1:=got_yes h6
       have bs1:=is_bad h6
       generalize got zs T s {data:=#[102,111,114]}=s1 at *
       generalize nameT zs T s1=nt
       have gs2:=name_at zs T s1
       generalize nameS zs T s1=s2 at *
       have gs3:=want_at zs T s2 {data:=#[61]}
       generalize want zs T s2 {data:=#[61]}=s3 at *
       have ha:(s3).at_≤(pz zs T f 0 (1) ([]) (s3)).2.2.at_∧tot (pz zs T f 0 (1) ([]) (s3)).1≤tot ([])+20*((pz zs T f 0 (1) ([]) (s3)).2.2.at_-(s3).at_)+1:=gd_at (ih 0 (1) ([]) (s3) (by decide) (nl 0 6 rfl (by decide) (by (try dsimp only);omega)))
       generalize pz zs T f 0 (1) ([]) (s3)=a at ha ⊢
       (try dsimp only at ha)
       have gs4:=want_at zs T a.2.2 {data:=#[44]}
       generalize want zs T a.2.2 {data:=#[44]}=s4 at *
       have hb:(s4).at_≤(pz zs T f 0 (1) ([]) (s4)).2.2.at_∧tot (pz zs T f 0 (1) ([]) (s4)).1≤tot ([])+20*((pz zs T f 0 (1) ([]) (s4)).2.2.at_-(s4).at_)+1:=gd_at (ih 0 (1) ([]) (s4) (by decide) (nl 0 6 rfl (by decide) (by (try dsimp only);omega)))
       generalize pz zs T f 0 (1) ([]) (s4)=b at hb ⊢
       (try dsimp only at hb)
       by_cases hc:isP zs T b.2.2 {data:=#[44]}=true
       ·simp only [if_pos hc]
        have gs5:=got_yes hc
        have bs5:=is_bad hc
        generalize got zs T b.2.2 {data:=#[44]}=s5 at *
        have hc:(s5).at_≤(pz zs T f 0 (1) ([]) (s5)).2.2.at_∧tot (pz zs T f 0 (1) ([]) (s5)).1≤tot ([])+20*((pz zs T f 0 (1) ([]) (s5)).2.2.at_-(s5).at_)+1:=gd_at (ih 0 (1) ([]) (s5) (by decide) (nl 0 6 rfl (by decide) (by (try dsimp only);omega)))
        generalize pz zs T f 0 (1) ([]) (s5)=c at hc ⊢
        (try dsimp only at hc)
        have gs6:=want_at zs T c.2.2 {data:=#[100,111]}
        generalize want zs T c.2.2 {data:=#[100,111]}=s6 at *
        have hd:({s6 with loop:=true}).at_≤(pz zs T f 11 (0) ([]) ({s6 with loop:=true})).2.2.at_∧tot (pz zs T f 11 (0) ([]) ({s6 with loop:=true})).1≤tot ([])+20*((pz zs T f 11 (0) ([]) ({s6 with loop:=true})).2.2.at_-({s6 with loop:=true}).at_)+3:=gd_at (ih 11 (0) ([]) ({s6 with loop:=true}) (by decide) (nl 11 11 rfl (by decide) (by (try dsimp only);omega)))
        generalize pz zs T f 11 (0) ([]) ({s6 with loop:=true})=d at hd ⊢
        (try dsimp only at hd)
        have gs7:=want_at zs T {d.2.2 with loop:=s6.loop} {data:=#[101,110,100]}
        generalize want zs T {d.2.2 with loop:=s6.loop} {data:=#[101,110,100]}=s7 at *
        (try dsimp only at gs7)
        unfold Gd;(try simp only [tot_nil,tot_app,tot_node,tot_one,tot_leaf] at *);(try dsimp only at *);omega
       ·simp only [if_neg hc]
        have gs6:=want_at zs T b.2.2 {data:=#[100,111]}
        generalize want zs T b.2.2 {data:=#[100,111]}=s6 at *
        have hd:({s6 with loop:=true}).at_≤(pz zs T f 11 (0) ([]) ({s6 with loop:=true})).2.2.at_∧tot (pz zs T f 11 (0) ([]) ({s6 with loop:=true})).1≤tot ([])+20*((pz zs T f 11 (0) ([]) ({s6 with loop:=true})).2.2.at_-({s6 with loop:=true}).at_)+3:=gd_at (ih 11 (0) ([]) ({s6 with loop:=true}) (by decide) (nl 11 11 rfl (by decide) (by (try dsimp only);omega)))
        generalize pz zs T f 11 (0) ([]) ({s6 with loop:=true})=d at hd ⊢
        (try dsimp only at hd)
        have gs7:=want_at zs T {d.2.2 with loop:=s6.loop} {data:=#[101,110,100]}
        generalize want zs T {d.2.2 with loop:=s6.loop} {data:=#[101,110,100]}=s7 at *
        (try dsimp only at gs7)
        unfold Gd;(try simp only [tot_nil,tot_app,tot_node,tot_one,tot_leaf] at *);(try dsimp only at *);omega
      ·rw [if_neg h6]
       have hx:Gd 2 0 2 0 1 ([]) (s) (pz zs T f 16 (0) ([]) (s)):=ih 16 (0) ([]) (s) (by decide) (nd 16 3 8 rfl rfl (by (try dsimp only);omega))
       generalize pz zs T f 16 (0) ([]) (s)=x at hx ⊢
       unfold Gd at hx;(try dsimp only at hx)
       unfold Gd;(try simp only [tot_nil,tot_app,tot_node,tot_one,tot_leaf] at *);(try dsimp only at *);omega
theorem gd_14 {zs:List Int} {T:List (Int×Nat×Nat)} {f:Nat} (ih:Ih zs T f) (n:Int) (ks:List (List Nd)) (s:Ps) (hn0:need T 14 s≤f+1):Gd 10 10 3 0 0 ks s (pz zs T (f+1) 14 n ks s):=by
 have hn:(0≤s.bad∧6≤f+1)∨(s.bad<0∧20*(T.length-s.at_)+8≤f+1):=nx hn0 rfl rfl
 clear hn0
 rw [pz_14]
 unfold pB14
 dsimp only
 by_cases hb:0≤s.bad
 ·have hf:6≤f+1:=by omega
  have hc:Gd 1 0 1 0 0 ([]) (s) (pz zs T f 0 (1) ([]) (s)):=ih 0 (1) ([]) (s) (by decide) (nd 0 5 6 rfl rfl (by (try dsimp only);omega))
  generalize pz zs T f 0 (1) ([]) (s)=c at hc ⊢
  unfold Gd at hc;(try dsimp only at hc)
  have gs1:=want_f zs T c.2.2 {data:=#[116,104,101,110]}
  generalize want zs T c.2.2 {data:=#[116,104,101,110]}=s1 at *
  have hb:Gd 3 1 1 0 0 ([]) (s1) (pz zs T f 11 (0) ([]) (s1)):=ih 11 (0) ([]) (s1) (by decide) (nd 11 2 11 rfl rfl (by (try dsimp only);omega))
  generalize pz zs T f 11 (0) ([]) (s1)=b at hb ⊢
  unfold Gd at hb;(try dsimp only at hb)
  have hy:Gd 0 0 0 0 0 (c.1++b.1) (b.2.2) (pz zs T f 15 (0) (c.1++b.1) (b.2.2)):=ih 15 (0) (c.1++b.1) (b.2.2) (by decide) (nd 15 1 2 rfl rfl (by (try dsimp only);omega))
  generalize pz zs T f 15 (0) (c.1++b.1) (b.2.2)=y at hy ⊢
  unfold Gd at hy;(try dsimp only at hy)
  by_cases he:isP zs T y.2.2 {data:=#[101,108,115,101]}=true
  ·simp only [if_pos he]
   have bs2:=is_bad he
   have gs2:=got_yes he
   generalize got zs T y.2.2 {data:=#[101,108,115,101]}=s2 at *
   exfalso;omega
  ·simp only [if_neg he]
   have gs3:=want_f zs T y.2.2 {data:=#[101,110,100]}
   generalize want zs T y.2.2 {data:=#[101,110,100]}=s3 at *
   unfold Gd;(try simp only [tot_nil,tot_app,tot_node,tot_one,tot_leaf] at *);(try dsimp only at *);omega
 ·have hb2:s.bad<0:=by omega
  have hc:(s).at_≤(pz zs T f 0 (1) ([]) (s)).2.2.at_∧tot (pz zs T f 0 (1) ([]) (s)).1≤tot ([])+20*((pz zs T f 0 (1) ([]) (s)).2.2.at_-(s).at_)+1:=gd_at (ih 0 (1) ([]) (s) (by decide) (nl 0 6 rfl (by decide) (by (try dsimp only);omega)))
  generalize pz zs T f 0 (1) ([]) (s)=c at hc ⊢
  (try dsimp only at hc)
  have gs1:=want_f zs T c.2.2 {data:=#[116,104,101,110]}
  generalize want zs T c.2.2 {data:=#[116,104,101,110]}=s1 at *
  have hb:(s1).at_≤(pz zs T f 11 (0) ([]) (s1)).2.2.at_∧tot (pz zs T f 11 (0) ([]) (s1)).1≤tot ([])+20*((pz zs T f 11 (0) ([]) (s1)).2.2.at_-(s1).at_)+3:=gd_at (ih 11 (0) ([]) (s1) (by decide) (nd 11 2 11 rfl rfl (by (try dsimp only);omega)))
  generalize pz zs T f 11 (0) ([]) (s1)=b at hb ⊢
  (try dsimp only at hb)
  have hy:(b.2.2).at_≤(pz zs T f 15 (0) (c.1++b.1) (b.2.2)).2.2.at_∧tot (pz zs T f 15 (0) (c.1++b.1) (b.2.2)).1≤tot (c.1++b.1)+20*((pz zs T f 15 (0) (c.1++b.1) (b.2.2)).2.2.at_-(b.2.2).at_)+0:=gd_at (ih 15 (0) (c.1++b.1) (b.2.2) (by decide) (nl 15 2 rfl (by decide) (by (try dsimp only);omega)))
  generalize pz zs T f 15 (0) (c.1++b.1) (b.2.2)=y at hy ⊢
  (try dsimp only at hy)
  by_cases he:isP zs T y.2.2 {data:=#[101,108,115,101]}=true
  ·simp only [if_pos he]
   have bs2:=is_bad he
   have gs2:=got_yes he
   generalize got zs T y.2.2 {data:=#[101,108,115,101]}=s2 at *
   have he:(s2).at_≤(pz zs T f 11 (0) ([]) (s2)).2.2.at_∧tot (pz zs T f 11 (0) ([]) (s2)).1≤tot ([])+20*((pz zs T f 11 (0) ([]) (s2)).2.2.at_-(s2).at_)+3:=gd_at (ih 11 (0) ([]) (s2) (by decide) (nl 11 11 rfl (by decide) (by (try dsimp only);omega)))
   generalize pz zs T f 11 (0) ([]) (s2)=e at he ⊢
   (try dsimp only at he)
   have gs3:=want_at zs T e.2.2 {data:=#[101,110,100]}
   generalize want zs T e.2.2 {data:=#[101,110,100]}=s3 at *
   unfold Gd;(try simp only [tot_nil,tot_app,tot_node,tot_one,tot_leaf] at *);(try dsimp only at *);omega
  ·simp only [if_neg he]
   have gs3:=want_at zs T y.2.2 {data:=#[101,110,100]}
   generalize want zs T y.2.2 {data:=#[101,110,100]}=s3 at *
   unfold Gd;(try simp only [tot_nil,tot_app,tot_node,tot_one,tot_leaf] at *);(try dsimp only at *);omega
theorem gd_15 {zs:List Int} {T:List (Int×Nat×Nat)} {f:Nat} (ih:Ih zs T f) (n:Int) (ks:List (List Nd)) (s:Ps) (hn0:need T 15 s≤f+1):Gd 0 0 0 0 0 ks s (pz zs T (f+1) 15 n ks s):=by
 have hn:(0≤s.bad∧1≤f+1)∨(s.bad<0∧20*(T.length-s.at_)+2≤f+1):=nx hn0 rfl rfl
 clear hn0
 rw [pz_15]
 unfold pB15
 dsimp only
 by_cases hi:isP zs T s {data:=#[101,108,115,101,105,102]}=true
 ·rw [if_pos hi]
  have gs1:=got_yes hi
  have bs1:=is_bad hi
  generalize got zs T s {data:=#[101,108,115,101,105,102]}=s1 at *
  have hc:(s1).at_≤(pz zs T f 0 (1) ([]) (s1)).2.2.at_∧tot (pz zs T f 0 (1) ([]) (s1)).1≤tot ([])+20*((pz zs T f 0 (1) ([]) (s1)).2.2.at_-(s1).at_)+1:=gd_at (ih 0 (1) ([]) (s1) (by decide) (nl 0 6 rfl (by decide) (by (try dsimp only);omega)))
  generalize pz zs T f 0 (1) ([]) (s1)=c at hc ⊢
  (try dsimp only at hc)
  have gs2:=want_at zs T c.2.2 {data:=#[116,104,101,110]}
  generalize want zs T c.2.2 {data:=#[116,104,101,110]}=s2 at *
  have hb:(s2).at_≤(pz zs T f 11 (0) ([]) (s2)).2.2.at_∧tot (pz zs T f 11 (0) ([]) (s2)).1≤tot ([])+20*((pz zs T f 11 (0) ([]) (s2)).2.2.at_-(s2).at_)+3:=gd_at (ih 11 (0) ([]) (s2) (by decide) (nl 11 11 rfl (by decide) (by (try dsimp only);omega)))
  generalize pz zs T f 11 (0) ([]) (s2)=b at hb ⊢
  (try dsimp only at hb)
  have hr:(b.2.2).at_≤(pz zs T f 15 (0) (ks++c.1++b.1) (b.2.2)).2.2.at_∧tot (pz zs T f 15 (0) (ks++c.1++b.1) (b.2.2)).1≤tot (ks++c.1++b.1)+20*((pz zs T f 15 (0) (ks++c.1++b.1) (b.2.2)).2.2.at_-(b.2.2).at_)+0:=gd_at (ih 15 (0) (ks++c.1++b.1) (b.2.2) (by decide) (nl 15 2 rfl (by decide) (by (try dsimp only);omega)))
  generalize pz zs T f 15 (0) (ks++c.1++b.1) (b.2.2)=r at hr ⊢
  (try dsimp only at hr)
  unfold Gd;(try simp only [tot_nil,tot_app,tot_node,tot_one,tot_leaf] at *);(try dsimp only at *);omega
 ·rw [if_neg hi]
  unfold Gd;(try simp only [tot_nil,tot_app,tot_node,tot_one,tot_leaf] at *);(try dsimp only at *);omega
theorem gd_16 {zs:List Int} {T:List (Int×Nat×Nat)} {f:Nat} (ih:Ih zs T f) (n:Int) (ks:List (List Nd)) (s:Ps) (hn0:need T 16 s≤f+1):Gd 2 0 2 0 1 ks s (pz zs T (f+1) 16 n ks s):=by
 have hn:(0≤s.bad∧3≤f+1)∨(s.bad<0∧20*(T.length-s.at_)+8≤f+1):=nx hn0 rfl rfl
 clear hn0
 rw [pz_16]
 unfold pB16
 dsimp only
 have hx:Gd 1 0 1 1 1 ([]) (s) (pz zs T f 4 (0) ([]) (s)):=ih 4 (0) ([]) (s) (by decide) (nd 4 2 3 rfl rfl (by (try dsimp only);omega))
 generalize pz zs T f 4 (0) ([]) (s)=x at hx ⊢
 unfold Gd at hx;(try dsimp only at hx)
 by_cases hc:x.2.1=99∧¬isP zs T x.2.2 {data:=#[61]}=true∧¬isP zs T x.2.2 {data:=#[44]}=true
 ·rw [if_pos hc]
  unfold Gd;(try simp only [tot_nil,tot_app,tot_node,tot_one,tot_leaf] at *);(try dsimp only at *);omega
 ·rw [if_neg hc]
  have hy:Gd 0 0 0 0 0 (x.1) (x.2.2) (pz zs T f 17 (x.2.1) (x.1) (x.2.2)):=ih 17 (x.2.1) (x.1) (x.2.2) (by decide) (nd 17 1 2 rfl rfl (by (try dsimp only);omega))
  generalize pz zs T f 17 (x.2.1) (x.1) (x.2.2)=y at hy ⊢
  unfold Gd at hy;(try dsimp only at hy)
  have gl:(longer y.2.2 (decide (50<y.1.length))).at_=y.2.2.at_∧(longer y.2.2 (decide (50<y.1.length))).bad=y.2.2.bad:=⟨rfl,rfl⟩
  generalize longer y.2.2 (decide (50<y.1.length))=s1 at *
  have gs2:=want_f zs T s1 {data:=#[61]}
  generalize want zs T s1 {data:=#[61]}=s2 at *
  by_cases hb:s2.bad<0
  ·simp only [if_pos hb]
   have he:Gd 1 0 1 0 0 ([]) (s2) (pz zs T f 6 (0) ([]) (s2)):=ih 6 (0) ([]) (s2) (by decide) (nd 6 6 7 rfl rfl (by (try dsimp only);omega))
   generalize pz zs T f 6 (0) ([]) (s2)=e at he ⊢
   unfold Gd at he;(try dsimp only at he)
   unfold Gd;(try simp only [tot_nil,tot_app,tot_node,tot_one,tot_leaf] at *);(try dsimp only at *);omega
  ·simp only [if_neg hb]
   unfold Gd;(try simp only [tot_nil,tot_app,tot_node,tot_one,tot_leaf] at *);(try dsimp only at *);omega
theorem gd_17 {zs:List Int} {T:List (Int×Nat×Nat)} {f:Nat} (ih:Ih zs T f) (n:Int) (ks:List (List Nd)) (s:Ps) (hn0:need T 17 s≤f+1):Gd 0 0 0 0 0 ks s (pz zs T (f+1) 17 n ks s):=by
 have hn:(0≤s.bad∧1≤f+1)∨(s.bad<0∧20*(T.length-s.at_)+2≤f+1):=nx hn0 rfl rfl
 clear hn0
 rw [pz_17]
 unfold pB17
 dsimp only
 by_cases hb:0≤s.bad
 ·rw [if_pos hb]
  unfold Gd;(try simp only [tot_nil,tot_app,tot_node,tot_one,tot_leaf] at *);(try dsimp only at *);omega
 ·rw [if_neg hb]
  obtain ⟨s1,hs1⟩:∃s1,s1=(if ¬n=116∨(¬isP zs T s {data:=#[61]}=true∧¬isP zs T s {data:=#[44]}=true) then wrong zs T s else s):=⟨_,rfl⟩
  have g1:s1.at_=s.at_∧(0≤s1.bad∨s1.bad=s.bad):=by rw [hs1];split;exact ⟨(wrong_f zs T s).1,.inl (wrong_f zs T s).2⟩;exact ⟨rfl,.inr rfl⟩
  rw [← hs1]
  clear hs1
  by_cases hi:isP zs T s1 {data:=#[44]}=true
  ·rw [if_pos hi]
   have gs2:=got_yes hi
   have bs2:=is_bad hi
   generalize got zs T s1 {data:=#[44]}=s2 at *
   have hx:(s2).at_≤(pz zs T f 4 (0) ([]) (s2)).2.2.at_∧tot (pz zs T f 4 (0) ([]) (s2)).1≤tot ([])+20*((pz zs T f 4 (0) ([]) (s2)).2.2.at_-(s2).at_)+1:=gd_at (ih 4 (0) ([]) (s2) (by decide) (nl 4 3 rfl (by decide) (by (try dsimp only);omega)))
   generalize pz zs T f 4 (0) ([]) (s2)=x at hx ⊢
   (try dsimp only at hx)
   have hr:(x.2.2).at_≤(pz zs T f 17 (x.2.1) (ks++x.1) (x.2.2)).2.2.at_∧tot (pz zs T f 17 (x.2.1) (ks++x.1) (x.2.2)).1≤tot (ks++x.1)+20*((pz zs T f 17 (x.2.1) (ks++x.1) (x.2.2)).2.2.at_-(x.2.2).at_)+0:=gd_at (ih 17 (x.2.1) (ks++x.1) (x.2.2) (by decide) (nl 17 2 rfl (by decide) (by (try dsimp only);omega)))
   generalize pz zs T f 17 (x.2.1) (ks++x.1) (x.2.2)=r at hr ⊢
   (try dsimp only at hr)
   unfold Gd;(try simp only [tot_nil,tot_app,tot_node,tot_one,tot_leaf] at *);(try dsimp only at *);omega
  ·rw [if_neg hi]
   unfold Gd;(try simp only [tot_nil,tot_app,tot_node,tot_one,tot_leaf] at *);(try dsimp only at *);omega
theorem pz_gd (zs:List Int) (T:List (Int×Nat×Nat)):∀f,Ih zs T f
 |0=>fun tag n ks s ht h=>by
  exfalso
  rcases need_or T tag s with ⟨_,e⟩|⟨_,e⟩
  ·have:1≤cBad tag:=by
    have:tag=0∨tag=1∨tag=2∨tag=3∨tag=4∨tag=5∨tag=6∨tag=7∨tag=8∨tag=9∨tag=10∨tag=11∨tag=12∨tag=13∨tag=14∨tag=15∨tag=16∨tag=17:=by omega
    rcases this with rfl|rfl|rfl|rfl|rfl|rfl|rfl|rfl|rfl|rfl|rfl|rfl|rfl|rfl|rfl|rfl|rfl|rfl <;> decide
   omega
  ·have:1≤cOk tag:=by
    have:tag=0∨tag=1∨tag=2∨tag=3∨tag=4∨tag=5∨tag=6∨tag=7∨tag=8∨tag=9∨tag=10∨tag=11∨tag=12∨tag=13∨tag=14∨tag=15∨tag=16∨tag=17:=by omega
    rcases this with rfl|rfl|rfl|rfl|rfl|rfl|rfl|rfl|rfl|rfl|rfl|rfl|rfl|rfl|rfl|rfl|rfl|rfl <;> decide
   omega
 |f+1=>fun tag n ks s ht h=>by
  have ih:=pz_gd zs T f
  have:tag=0∨tag=1∨tag=2∨tag=3∨tag=4∨tag=5∨tag=6∨tag=7∨tag=8∨tag=9∨tag=10∨tag=11∨tag=12∨tag=13∨tag=14∨tag=15∨tag=16∨tag=17:=by omega
  rcases this with rfl|rfl|rfl|rfl|rfl|rfl|rfl|rfl|rfl|rfl|rfl|rfl|rfl|rfl|rfl|rfl|rfl|rfl
  ·exact gd_0 ih n ks s h
  ·exact gd_1 ih n ks s h
  ·exact gd_2 ih n ks s h
  ·exact gd_3 ih n ks s h
  ·exact gd_4 ih n ks s h
  ·exact gd_5 ih n ks s h
  ·exact gd_6 ih n ks s h
  ·exact gd_7 ih n ks s h
  ·exact gd_8 ih n ks s h
  ·exact gd_9 ih n ks s h
  ·exact gd_10 ih n ks s h
  ·exact gd_11 ih n ks s h
  ·exact gd_12 ih n ks s h
  ·exact gd_13 ih n ks s h
  ·exact gd_14 ih n ks s h
  ·exact gd_15 ih n ks s h
  ·exact gd_16 ih n ks s h
  ·exact gd_17 ih n ks s h
end ps
namespace ip
open Go.RowKit bts nod lex tk ps
theorem toks_at {zs:List Int}:∀{T:List (Int×Nat×Nat)} {e k:Nat},Toks zs e T→k<T.length→1≤(T.getD k (0,0,0)).2.2∧(T.getD k (0,0,0)).2.1+(T.getD k (0,0,0)).2.2≤zs.length∧tokK zs (T.getD k (0,0,0)).2.1=((T.getD k (0,0,0)).1,(T.getD k (0,0,0)).2.2,0)
 |[],_,_,_,h=>absurd h (by simp)
 |(_,_,_)::_,_,0,⟨_,h1,h2,_,_,h5,_⟩,_=>⟨h1,h2,h5⟩
 |(_,_,_)::_,_,k+1,⟨_,_,_,_,_,_,h6⟩,h=>toks_at (k:=k) h6 (by simpa using h)
def lits:List ByteArray:=words++signs
theorem str_list (ys:List Int):(strOfNums ys).toList=ys.map fun n=>UInt8.ofNat n.toNat:=by
 rw [toList_mk];rfl
def isLit (t:ByteArray):Bool:=lits.any fun x=>x.data.toList==t.data.toList
theorem lit_mem {t:ByteArray} (h:isLit t=true):t∈lits:=by
 obtain ⟨x,hx,e⟩:=List.any_eq_true.1 h
 have:x=t:=by
  obtain ⟨⟨a⟩⟩:=x
  obtain ⟨⟨b⟩⟩:=t
  simpa using e
 rw [← this]
 exact hx
theorem lits_first:∀t∈lits,∃c r,t.toList=c::r∧((letter (c.toNat:Int)=true∧isIn words t=true)∨(letter (c.toNat:Int)=false∧digit (c.toNat:Int)=false∧¬((c.toNat:Int)=34∨(c.toNat:Int)=39))):=by
 intro t ht
 simp only [lits,words,signs,List.cons_append,List.nil_append,List.mem_cons,List.not_mem_nil,or_false] at ht
 rcases ht with rfl|rfl|rfl|rfl|rfl|rfl|rfl|rfl|rfl|rfl|rfl|rfl|rfl|rfl|rfl|rfl|rfl|rfl|rfl|rfl|rfl|rfl|rfl|rfl|rfl|rfl|rfl|rfl|rfl|rfl|rfl|rfl|rfl|rfl|rfl|rfl|rfl|rfl|rfl|rfl|rfl|rfl
 all_goals first|exact ⟨_,_,(toList_mk _).trans rfl,.inl ⟨by decide,by simp [isIn,words,toList_mk]⟩⟩|exact ⟨_,_,(toList_mk _).trans rfl,.inr ⟨by decide,by decide,by decide⟩⟩
theorem kin {zs:List Int} {T:List (Int×Nat×Nat)} (hb:Bts zs) (hT:Toks zs 0 T) {k:Nat} (hk:k<T.length) {t:ByteArray} (ht:t∈lits) (h:((strOfNums (textOf zs T k)).toList==t.toList)=true):((T.getD k (0,0,0)).1==4 || (T.getD k (0,0,0)).1==5)=true:=by
 obtain ⟨h1,h2,h3⟩:=toks_at hT hk
 obtain ⟨c,r,e,hc⟩:=lits_first t ht
 unfold textOf at h
 generalize (T.getD k (0,0,0))=q at *
 obtain ⟨kd,a,n⟩:=q
 simp only at *
 have h0:UInt8.ofNat (zs.getD a 0).toNat=c:=by
  have h':=h
  rw [beq_iff_eq,e,str_list] at h'
  have hp:0<(lex.part zs a n).length:=by rw [part_len h2];omega
  have hg:=part_getD (zs:=zs) (k:=a) (i:=0) (n:=n) (by omega)
  cases hx:lex.part zs a n with
  |nil=>rw [hx] at hp;simp at hp
  |cons y ys =>
   rw [hx] at h' hg
   simp only [List.map_cons,List.cons.injEq] at h'
   rw [Nat.add_zero] at hg
   rw [← hg]
   exact h'.1
 have hz:zs.getD a 0=(c.toNat:Int):=by
  have:=hb a
  rw [← h0]
  simp only [UInt8.toNat_ofNat']
  omega
 rcases hc with ⟨hl,hw⟩|⟨hl,hd,hq⟩
 ·rw [tok_of_letter (by rw [hz];exact hl)] at h3
  simp only [Prod.mk.injEq,and_true] at h3
  rw [h3.2] at h3
  have:wkind (strOfNums (lex.part zs a n))=4:=by
   unfold wkind
   have e2:isIn words (strOfNums (lex.part zs a n))=true:=by
    unfold isIn at hw ⊢
    rw [beq_iff_eq] at h
    rw [h]
    exact hw
   rw [e2];rfl
  rw [← h3.1,this];rfl
 ·rw [tok_of_sign (by rw [hz];exact hl) (by rw [hz];exact hd) (by rw [hz];exact hq)] at h3
  cases hs:signLen zs a signs with
  |none=>rw [hs] at h3;simp [ofSign] at h3
  |some m=>rw [hs] at h3;simp only [ofSign,Prod.mk.injEq] at h3;rw [← h3.1];rfl
section
variable {zs:List Int} {T:List (Int×Nat×Nat)} {s:Ps} {t t':ByteArray}
theorem is_lit (hb:Bts zs) (hT:Toks zs 0 T) (ht:t∈lits) (h1:¬0≤s.bad) (h2:s.at_<T.length):isP zs T s t=((strOfNums (textOf zs T s.at_)).toList==t.toList):=by
 have ho:=over_no (T:=T) (s:=s) h1 h2
 unfold isP kindP now
 rw [ho]
 simp only [Bool.false_eq_true,if_false]
 cases h:(strOfNums (textOf zs T s.at_)).toList==t.toList with
 |false=>simp
 |true=>rw [kin hb hT h2 ht h];rfl
theorem is_end (h2:T.length≤s.at_):isP zs T s t=false:=by
 have ho:=over_end (T:=T) (s:=s) h2
 simp [isP,kindP,ho]
theorem is_off (h:0≤s.bad):isP zs T s t=false:=by
 have ho:=over_bad (T:=T) (s:=s) h
 simp [isP,kindP,ho]
theorem kind_off (h:0≤s.bad):kindP T s=0:=by
 have ho:=over_bad (T:=T) (s:=s) h
 simp [kindP,ho]
theorem want_off (h:0≤s.bad):want zs T s t=s:=by
 unfold want wrong
 rw [is_off h,if_pos h]
 rfl
theorem got_off (h:0≤s.bad):got zs T s t=s:=by
 unfold got
 rw [is_off h]
 rfl
theorem wrong_off (h:0≤s.bad):wrong zs T s=s:=by unfold wrong;rw [if_pos h]
theorem name_off (h:0≤s.bad):nameS zs T s=s:=by
 unfold nameS
 rw [kind_off h,if_neg (by decide),wrong_off h]
theorem want_yes (h:isP zs T s t=true):want zs T s t=ps.step s:=by unfold want;rw [h];rfl
theorem want_no (h:isP zs T s t=false):want zs T s t=wrong zs T s:=by unfold want;rw [h];rfl
theorem is_else (h:isP zs T s t=true) (hn:(t.toList==t'.toList)=false):isP zs T s t'=false:=by
 unfold isP at h ⊢
 rw [Bool.and_eq_true,beq_iff_eq] at h
 rw [h.2,hn,Bool.and_false]
theorem is_kind (h:isP zs T s t=true):kindP T s=4∨kindP T s=5:=by
 unfold isP at h
 rw [Bool.and_eq_true,Bool.or_eq_true,beq_iff_eq,beq_iff_eq] at h
 exact h.1
theorem kind_else {k:Int} (h:kindP T s=k) (h4:¬k=4) (h5:¬k=5):isP zs T s t=false:=by
 unfold isP
 rw [h]
 simp [h4,h5]
theorem want_bd (h:0≤s.bad):(want zs T s t).bad=s.bad:=by rw [want_off h]
theorem name_bd (h:0≤s.bad):(nameS zs T s).bad=s.bad:=by rw [name_off h]
theorem wrong_at:(wrong zs T s).at_=s.at_∧(wrong zs T s).loop=s.loop∧(wrong zs T s).long=s.long:=by
 unfold wrong
 split <;> exact ⟨rfl,rfl,rfl⟩
end
theorem namesF_off {zs:List Int} {T:List (Int×Nat×Nat)}:∀(f:Nat) (s:Ps) (out:List (List Int)),0≤s.bad→namesF zs T f s out=(out,s)
 |0,_,_,_=>rfl
 |_+1,s,out,h=>by rw [namesF,is_off h];rfl
theorem names_off {zs:List Int} {T:List (Int×Nat×Nat)} {s:Ps} (h:0≤s.bad):(names zs T s).2.bad=s.bad:=by
 unfold names
 rw [name_off h,namesF_off _ _ _ h]
 rfl
theorem oper_off {zs:List Int} {T:List (Int×Nat×Nat)} {s:Ps} (h:0≤s.bad):(oper zs T s).2=0:=by
 by_cases h0:(oper zs T s).2=0
 ·exact h0
 ·have:=(oper_lt h0).1;omega
theorem ends_off {zs:List Int} {T:List (Int×Nat×Nat)} {s:Ps} (h:0≤s.bad):ends zs T s=true:=by
 unfold ends;rw [over_bad h];rfl
theorem starts_off {zs:List Int} {T:List (Int×Nat×Nat)} {s:Ps} (h:0≤s.bad):starts zs T s=false:=by
 have hw:∀l,inWord zs T l s=false:=by
  intro l
  induction l with
  |nil=>rfl
  |cons a r ih=>rw [inWord,is_off h,ih];rfl
 unfold starts
 rw [kind_off h,hw]
 rfl
theorem named_off {zs:List Int} {T:List (Int×Nat×Nat)} {s:Ps} (h:0≤s.bad):named zs T s=false:=by
 unfold named
 rw [kind_off h]
 rfl
theorem pz_off {zs:List Int} {T:List (Int×Nat×Nat)}:∀(f tag:Nat) (n:Int) (ks:List (List Nd)) (s:Ps),0≤s.bad→(pz zs T f tag n ks s).2.2.bad=s.bad:=by
 intro f
 induction f with
 |zero=>intro tag n ks s h;rfl
 |succ f ih =>
  intro tag n ks s h
  have hN:¬s.bad<0:=by omega
  show (pzS zs T tag (pz zs T f) n ks s).2.2.bad=s.bad
  unfold pzS
  split
  all_goals simp only [pB0,pB1,pB2,pB3,pB4,pB5,pB6,pB7,pB8,pB9,pB10,pB11,pB12,pB13,pB14,pB15,pB16,pB17,is_off h,kind_off h,want_off h,got_off h,wrong_off h,name_off h,ends_off h,starts_off h,named_off h,oper_off h,longer,h,if_true,if_false,true_or,or_true,Bool.false_eq_true,Bool.and_false,ih]
  all_goals try simp only [show ¬((0:Int)=2) by decide,show ¬((0:Int)=3) by decide,if_false,ih,h]
  ·rw [want_bd]
   ·simp only
    rw [ih _ _ _ _ (by simp only;rw [want_bd (by rw [names_off h];exact h),names_off h];exact h),want_bd (by rw [names_off h];exact h),names_off h]
   ·simp only
    rw [ih _ _ _ _ (by simp only;rw [want_bd (by rw [names_off h];exact h),names_off h];exact h),want_bd (by rw [names_off h];exact h),names_off h]
    exact h
  ·rw [want_bd (by rw [ih _ _ _ _ h];exact h),ih _ _ _ _ h]
  ·have e1:0≤(want zs T (pz zs T f 0 1 [] s).2.2 {data:=#[116,104,101,110]}).bad:=by rw [want_bd (by rw [ih _ _ _ _ h];exact h),ih _ _ _ _ h];exact h
   have e2:(want zs T (pz zs T f 0 1 [] s).2.2 {data:=#[116,104,101,110]}).bad=s.bad:=by rw [want_bd (by rw [ih _ _ _ _ h];exact h),ih _ _ _ _ h]
   have e3:∀ks,(pz zs T f 15 0 ks (pz zs T f 11 0 [] (want zs T (pz zs T f 0 1 [] s).2.2 {data:=#[116,104,101,110]})).2.2).2.2.bad=s.bad:=fun ks=>by rw [ih _ _ _ _ (by rw [ih _ _ _ _ e1];exact e1),ih _ _ _ _ e1,e2]
   rw [is_off (by rw [e3];exact h)]
   simp only [Bool.false_eq_true,if_false]
   rw [want_bd (by rw [e3];exact h),e3]
  ·split
   ·exact ih _ _ _ _ h
   ·simp only
    rw [if_neg (by rw [want_bd (by exact h)];exact hN)]
    exact want_bd (by exact h)
end ip
end Go.Proofs.YtkmiagkehcflnaaGreatDoor
