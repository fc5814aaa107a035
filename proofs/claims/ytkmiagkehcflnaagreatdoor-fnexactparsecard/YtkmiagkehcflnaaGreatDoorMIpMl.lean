import Derived.Test.YtkmiagkehcflnaaGreatDoorMTrValid
import Derived.Test.YtkmiagkehcflnaaGreatDoorMIpMk
import Derived.Test.YtkmiagkehcflnaaGreatDoorMIpR
set_option maxRecDepth 100000
set_option maxHeartbeats 8000000
namespace Go.Proofs.YtkmiagkehcflnaaGreatDoor
namespace ip
open Go.RowKit bts nod lex tk vt
open ps (En Ps isP kindP now wrong want got nameT nameS over pz cOk ends names starts bare longer oper namesF)
def Sml (x:Nd):Prop:=x.text.length≤5000∧x.names.length≤50∧(∀m∈x.names,m.length≤5000)∧(x.kind=1∨x.kind=9→x.count≤50)∧(x.kind=18→x.count≤51)∧(x.kind=2→x.n≤50∧x.count≤x.n+50)∧(x.text=[]∨x.names=[])
def SmK (ks:List (List Nd)):Prop:=∀k∈ks,∀x∈k,Sml x
theorem smk_app {a b:List (List Nd)}:SmK (a++b)↔SmK a∧SmK b:=by
 unfold SmK
 constructor
 ·intro h
  exact ⟨fun k hk=>h k (List.mem_append_left _ hk),fun k hk=>h k (List.mem_append_right _ hk)⟩
 ·rintro ⟨h1,h2⟩ k hk
  rcases List.mem_append.1 hk with h|h
  ·exact h1 k h
  ·exact h2 k h
theorem smk_node {d:Nd} {ks:List (List Nd)}:SmK [tk.node d ks]↔Sml ⟨d.kind,d.n,d.text,d.names,ks.length⟩∧SmK ks:=by
 unfold SmK tk.node
 constructor
 ·intro h
  have h:=h _ List.mem_cons_self
  exact ⟨h _ List.mem_cons_self,fun k hk x hx=>h x (List.mem_cons_of_mem _ (List.mem_flatten.2 ⟨k,hk,hx⟩))⟩
 ·rintro ⟨h1,h2⟩ k hk x hx
  rw [List.mem_singleton.1 hk] at hx
  rcases List.mem_cons.1 hx with rfl|hx
  ·exact h1
  ·obtain ⟨k,hk,hx⟩:=List.mem_flatten.1 hx
   exact h2 k hk x hx
theorem smk_one {x:Nd} (h:SmK [[x]]):Sml x:=h _ List.mem_cons_self _ List.mem_cons_self
def Lg (T:List (Int×Nat×Nat)) (s s':Ps) (k:Nat) (P:Prop):Prop:=s'.bad<0→s.bad<0∧s.at_+k≤s'.at_∧(s.at_≤T.length→s'.at_≤T.length)∧(P→s.long=false→s'.long=false)
def Fu (T:List (Int×Nat×Nat)) (f tag:Nat) (s:Ps):Prop:=s.bad<0→s.at_≤T.length∧20*(T.length-s.at_)+cOk tag≤f
section
variable {zs:List Int} {T:List (Int×Nat×Nat)} {s s1 s2:Ps} {k m f tag tag':Nat} {P:Prop} {t:ByteArray}
theorem Lg.refl:Lg T s s 0 P:=fun h=>⟨h,Nat.le_refl _,id,fun _ h=>h⟩
theorem Lg.trans (h:Lg T s s1 k P) (h2:Lg T s1 s2 m P):Lg T s s2 (k+m) P:=fun hb=>by
 obtain ⟨a1,a2,a3,a4⟩:=h2 hb
 obtain ⟨b1,b2,b3,b4⟩:=h a1
 exact ⟨b1,by omega,fun x=>a3 (b3 x),fun x y=>a4 x (b4 x y)⟩
theorem Lg.le (h:Lg T s s1 k P) (hm:m≤k):Lg T s s1 m P:=fun hb=>by
 obtain ⟨b1,b2,b3,b4⟩:=h hb
 exact ⟨b1,by omega,b3,b4⟩
theorem Lg.fuel (h:Lg T s s1 k P) (hs:Fu T (f+1) tag s) (hc:cOk tag'+1≤cOk tag+20*k):Fu T f tag' s1:=fun hb=>by
 obtain ⟨a,b,c,_⟩:=h hb
 obtain ⟨d,e⟩:=hs a
 have:=c d
 exact ⟨this,by omega⟩
theorem lg_want:Lg T s (want zs T s t) 1 P:=fun hb=>by
 rcases ps.want_or zs T s t with ⟨hi,h⟩|h
 ·exact ⟨h.2.2.1,by omega,fun _=>by omega,fun _ hl=>by rw [want_yes hi];exact hl⟩
 ·omega
theorem lg_gotY (hi:isP zs T s t=true):Lg T s (got zs T s t) 1 P:=fun _=>by
 have h:=ps.got_yes hi
 have h2:=ps.is_bad hi
 exact ⟨h2.1,by omega,fun _=>by omega,fun _ hl=>by unfold ps.got;rw [if_pos hi];exact hl⟩
theorem lg_got:Lg T s (got zs T s t) 0 P:=by
 by_cases hi:isP zs T s t=true
 ·exact (lg_gotY hi).le (by omega)
 ·rw [ps.got_no hi];exact .refl
theorem lg_step (h:s.bad<0∧s.at_<T.length):Lg T s (ps.step s) 1 P:=fun _=>⟨h.1,Nat.le_refl _,fun _=>h.2,fun _ h=>h⟩
theorem lg_loop (b:Bool):Lg T s {s with loop:=b} 0 P:=fun h=>⟨h,Nat.le_refl _,id,fun _ h=>h⟩
theorem lg_longer {b:Bool} (hb:P→b=false):Lg T s (longer s b) 0 P:=fun h=>⟨h,Nat.le_refl _,id,fun p hl=>by show (s.long || b)=false;rw [hl,hb p];rfl⟩
theorem lg_name (hp:P→(nameT zs T s).length≤5000):Lg T s (nameS zs T s) 1 P:=fun hb=>by
 rcases ps.name_f zs T s with h|h
 ·refine ⟨h.2.2.1,by omega,fun _=>by omega,fun p hl=>?_⟩
  have hp:=hp p
  unfold ps.nameS ps.nameT at *
  by_cases hk:kindP T s=1
  ·rw [if_pos hk] at hp ⊢
   show (s.long || decide (5000<(now zs T s).size))=false
   rw [nums_length] at hp
   rw [hl,decide_eq_false (by omega)]
   rfl
  ·rw [if_neg hk]
   exact wrong_at.2.2.trans hl
 ·omega
theorem namesF_in:∀(f:Nat) (s:Ps) (out:List (List Int)),∀m∈out,m∈(namesF zs T f s out).1
 |0,_,_,_,h=>h
 |f+1,s,out,m,h=>by
  unfold ps.namesF
  split
  ·exact namesF_in f _ _ m (List.mem_append_left _ h)
  ·exact h
theorem lg_namesF:∀(f:Nat) (s:Ps) (out:List (List Int)),(P→∀m∈(namesF zs T f s out).1,m.length≤5000)→Lg T s (namesF zs T f s out).2 0 P
 |0,_,_,_=>.refl
 |f+1,s,out,h=>by
  unfold ps.namesF at h ⊢
  split
  ·next hi =>
   rw [if_pos hi] at h
   exact (((lg_gotY hi).trans (lg_name (fun p=>h p _ (namesF_in f _ _ _ (List.mem_append_right _ List.mem_cons_self))))).trans (lg_namesF f _ _ h)).le (by omega)
  ·exact .refl
theorem lg_names (h:P→(∀m∈(names zs T s).1,m.length≤5000)∧(names zs T s).1.length≤50):Lg T s (names zs T s).2 1 P:=by
 unfold ps.names at h ⊢
 exact (((lg_name (fun p=>(h p).1 _ (namesF_in _ _ _ _ List.mem_cons_self))).trans (lg_namesF _ _ _ (fun p=>(h p).1))).trans (lg_longer (fun p=>decide_eq_false (by have:=(h p).2;simp only at this;omega)))).le (by omega)
end
def lpTag (tag:Nat):Bool:=tag==1 || tag==5 || tag==7 || tag==10 || tag==12 || tag==15 || tag==17
theorem keep {zs:List Int} {T:List (Int×Nat×Nat)}:∀(f tag:Nat) (n:Int) (ks:List (List Nd)) (s:Ps),lpTag tag=true→tag≤17→SmK (pz zs T f tag n ks s).1→SmK ks:=by
 intro f
 induction f with
 |zero=>intro tag n ks s _ _ h;exact h
 |succ f ih =>
  intro tag n ks s ht h17 h
  have hc:tag=1∨tag=5∨tag=7∨tag=10∨tag=12∨tag=15∨tag=17:=by simp [lpTag] at ht;omega
  rcases hc with rfl|rfl|rfl|rfl|rfl|rfl|rfl
  ·rw [ps.pz_1] at h
   unfold ps.pB1 at h
   dsimp only at h
   split at h
   ·exact h
   ·split at h
    ·exact h
    ·exact (smk_app.1 (smk_node.1 (ih 1 _ _ _ rfl (by decide) h)).2).1
  ·rw [ps.pz_5] at h
   unfold ps.pB5 at h
   dsimp only at h
   split at h
   ·exact h
   ·split at h
    ·exact (smk_app.1 (smk_node.1 (ih 5 _ _ _ rfl (by decide) h)).2).1
    ·split at h
     ·exact (smk_app.1 (smk_node.1 (ih 5 _ _ _ rfl (by decide) h)).2).1
     ·split at h
      ·have h:=(smk_node.1 (ih 5 _ _ _ rfl (by decide) h)).2
       split at h
       ·exact h
       ·exact (smk_app.1 h).1
      ·exact h
  ·rw [ps.pz_7] at h
   unfold ps.pB7 at h
   dsimp only at h
   split at h
   ·exact (smk_app.1 (ih 7 _ _ _ rfl (by decide) h)).1
   ·exact h
  ·rw [ps.pz_10] at h
   unfold ps.pB10 at h
   dsimp only at h
   split at h
   ·exact h
   ·repeat' split at h
    all_goals first|exact (smk_app.1 (smk_app.1 (ih 10 _ _ _ rfl (by decide) h)).1).1|exact (smk_app.1 (smk_app.1 h).1).1
  ·rw [ps.pz_12] at h
   unfold ps.pB12 at h
   dsimp only at h
   split at h
   ·exact h
   ·split at h
    ·exact (smk_app.1 h).1
    ·split at h
     ·exact (smk_app.1 h).1
     ·exact (smk_app.1 (ih 12 _ _ _ rfl (by decide) h)).1
  ·rw [ps.pz_15] at h
   unfold ps.pB15 at h
   dsimp only at h
   split at h
   ·exact (smk_app.1 (smk_app.1 (ih 15 _ _ _ rfl (by decide) h)).1).1
   ·exact h
  ·rw [ps.pz_17] at h
   unfold ps.pB17 at h
   dsimp only at h
   repeat' split at h
   all_goals first|exact h|exact (smk_app.1 (ih 17 _ _ _ rfl (by decide) h)).1
theorem one_kept {zs:List Int} {T:List (Int×Nat×Nat)}:∀(f tag:Nat) (n:Int) (ks:List (List Nd)) (s:Ps),tag=1∨tag=5→ks.length=1→(pz zs T f tag n ks s).1.length=1:=by
 intro f
 induction f with
 |zero=>intro tag n ks s _ h;exact h
 |succ f ih =>
  intro tag n ks s ht h
  rcases ht with rfl|rfl
  ·rw [ps.pz_1]
   unfold ps.pB1
   dsimp only
   split
   ·exact h
   ·split
    ·exact h
    ·exact ih 1 _ _ _ (.inl rfl) rfl
  ·rw [ps.pz_5]
   unfold ps.pB5
   dsimp only
   split
   ·exact h
   ·split
    ·exact ih 5 _ _ _ (.inr rfl) rfl
    ·split
     ·exact ih 5 _ _ _ (.inr rfl) rfl
     ·split
      ·exact ih 5 _ _ _ (.inr rfl) rfl
      ·exact h
theorem one_read {zs:List Int} {T:List (Int×Nat×Nat)}:∀(f tag:Nat) (n:Int) (ks:List (List Nd)) (s:Ps),tag=0∨tag=2∨tag=3∨tag=4→s.bad<0→Fu T f tag s→(pz zs T f tag n ks s).1.length=1:=by
 intro f
 induction f with
 |zero =>
  intro tag n ks s ht hb hs
  have:=(hs hb).2
  have hc:1≤cOk tag:=by rcases ht with rfl|rfl|rfl|rfl <;> decide
  omega
 |succ f ih =>
  intro tag n ks s ht hb hs
  have R:Lg T s s 0 True:=.refl
  rcases ht with rfl|rfl|rfl|rfl
  ·rw [ps.pz_0]
   unfold ps.pB0
   exact one_kept f 1 _ _ _ (.inl rfl) (ih 2 _ _ _ (by decide) hb (R.fuel hs (by decide)))
  ·rw [ps.pz_2]
   unfold ps.pB2
   dsimp only
   split
   ·rfl
   ·split
    ·rfl
    ·exact ih 3 _ _ _ (by decide) hb (R.fuel hs (by decide))
  ·have h8:1≤f:=by have:=(hs hb).2;simp only [cOk] at this;omega
   obtain ⟨g,rfl⟩:∃g,f=g+1:=⟨f-1,by omega⟩
   rw [ps.pz_3]
   unfold ps.pB3
   dsimp only
   repeat' split
   all_goals first|rfl|exact ih 4 _ _ _ (by decide) hb (R.fuel hs (by decide))
  ·rw [ps.pz_4]
   unfold ps.pB4
   dsimp only
   split
   ·next hi =>
    have R2:Lg T s (got zs T s {data:=#[40]}) 1 True:=lg_gotY hi
    exact one_kept f 5 _ _ _ (.inr rfl) (ih 0 _ _ _ (by decide) (by rw [(ps.got_yes hi).2];exact hb) (R2.fuel hs (by decide)))
   ·exact one_kept f 5 _ _ _ (.inr rfl) rfl
end ip
namespace ip
open Go.RowKit bts nod lex tk vt
open ps (En Ps isP kindP now wrong want got nameT nameS over pz cOk ends names starts bare longer oper namesF)
def kq (tag:Nat):Nat:=if tag=4∨tag=13∨tag=16 then 1 else 0
def IhL (zs:List Int) (T:List (Int×Nat×Nat)) (f:Nat):Prop:=∀(tag:Nat) (n:Int) (ks:List (List Nd)) (s:Ps) (P:Prop),tag≤17→Fu T f tag s→(tag=5→ks.length=1)→(P→SmK (pz zs T f tag n ks s).1)→(tag=6→P→(pz zs T f tag n ks s).1.length≤50)→Lg T s (pz zs T f tag n ks s).2.2 (kq tag) P
section
variable {zs:List Int} {T:List (Int×Nat×Nat)} {f:Nat} {s:Ps} {P:Prop} {n:Int} {ks:List (List Nd)} {r:List (List Nd)×Int×Ps}
theorem IhL.at (ih:IhL zs T f) (tag:Nat) {n:Int} {ks:List (List Nd)} {s:Ps} (h:tag≤17∧¬tag=5∧¬tag=6) (hf:Fu T f tag s) (hp:P→SmK (pz zs T f tag n ks s).1):Lg T s (pz zs T f tag n ks s).2.2 (kq tag) P:=ih tag n ks s P h.1 hf (fun e=>absurd e h.2.1) hp (fun e=>absurd e h.2.2)
theorem IhL.at5 (ih:IhL zs T f) {n:Int} {ks:List (List Nd)} {s:Ps} (hf:Fu T f 5 s) (hk:ks.length=1) (hp:P→SmK (pz zs T f 5 n ks s).1):Lg T s (pz zs T f 5 n ks s).2.2 0 P:=ih 5 n ks s P (by decide) hf (fun _=>hk) hp (fun e=>absurd e (by decide))
theorem IhL.at6 (ih:IhL zs T f) {n:Int} {ks:List (List Nd)} {s:Ps} (hf:Fu T f 6 s) (hp:P→SmK (pz zs T f 6 n ks s).1) (hl:P→(pz zs T f 6 n ks s).1.length≤50):Lg T s (pz zs T f 6 n ks s).2.2 0 P:=ih 6 n ks s P (by decide) hf (fun e=>absurd e (by decide)) hp (fun _=>hl)
theorem fu0 {tag tag':Nat} (hs:Fu T (f+1) tag s) (hc:cOk tag'+1≤cOk tag+20*0):Fu T f tag' s:=Lg.fuel (P:=True) .refl hs hc
theorem lg_0 (ih:IhL zs T f) (hs:Fu T (f+1) 0 s) (hr:r=pz zs T (f+1) 0 n ks s) (hp:P→SmK r.1):Lg T s r.2.2 0 P:=by
 rw [ps.pz_0] at hr
 unfold ps.pB0 at hr
 dsimp only at hr
 subst hr
 have a:=ih.at 2 (by decide) (fu0 hs (by decide)) (fun p=>keep f 1 _ _ _ rfl (by decide) (hp p))
 exact (a.trans (ih.at 1 (by decide) (a.fuel hs (by decide)) hp)).le (by decide)
theorem lg_1 (ih:IhL zs T f) (hs:Fu T (f+1) 1 s) (hr:r=pz zs T (f+1) 1 n ks s) (hp:P→SmK r.1):Lg T s r.2.2 0 P:=by
 rw [ps.pz_1] at hr
 unfold ps.pB1 at hr
 dsimp only at hr
 split at hr
 ·subst hr;exact .refl
 ·by_cases hq:(oper zs T s).2<n∨(oper zs T s).2=0
  ·rw [if_pos hq] at hr;subst hr;exact .refl
  ·rw [if_neg hq] at hr
   subst hr
   have a:Lg T s (ps.step s) 1 P:=lg_step (ps.oper_lt (fun e=>hq (.inr e)))
   have b:=a.trans (ih.at 0 (by decide) (a.fuel hs (by decide)) (fun p=>(smk_app.1 (smk_node.1 (keep f 1 _ _ _ rfl (by decide) (hp p))).2).2))
   exact (b.trans (ih.at 1 (by decide) (b.fuel hs (by decide)) hp)).le (by decide)
theorem lg_2 (ih:IhL zs T f) (hs:Fu T (f+1) 2 s) (hr:r=pz zs T (f+1) 2 n ks s) (hp:P→SmK r.1):Lg T s r.2.2 0 P:=by
 rw [ps.pz_2] at hr
 unfold ps.pB2 at hr
 dsimp only at hr
 split at hr
 ·next h =>
  subst hr
  have a:Lg T s _ 1 P:=lg_gotY h
  exact (a.trans (ih.at 2 (by decide) (a.fuel hs (by decide)) (fun p=>(smk_node.1 (hp p)).2))).le (by decide)
 ·split at hr
  ·next h =>
   subst hr
   have a:Lg T s _ 1 P:=lg_gotY h
   exact (a.trans (ih.at 2 (by decide) (a.fuel hs (by decide)) (fun p=>(smk_node.1 (hp p)).2))).le (by decide)
  ·subst hr
   exact ih.at 3 (by decide) (fu0 hs (by decide)) hp
theorem lg_3 (ih:IhL zs T f) (hs:Fu T (f+1) 3 s) (hr:r=pz zs T (f+1) 3 n ks s) (hp:P→SmK r.1):Lg T s r.2.2 0 P:=by
 rw [ps.pz_3] at hr
 unfold ps.pB3 at hr
 dsimp only at hr
 split at hr
 ·next h=>subst hr;exact (lg_gotY h).le (by decide)
 split at hr
 ·next h=>subst hr;exact (lg_gotY h).le (by decide)
 split at hr
 ·next h=>subst hr;exact (lg_gotY h).le (by decide)
 split at hr
 ·next h =>
  subst hr
  have a:Lg T s _ 1 P:=lg_gotY h
  exact (a.trans (ih.at 8 (by decide) (a.fuel hs (by decide)) hp)).le (by decide)
 split at hr
 ·subst hr;exact ih.at 9 (by decide) (fu0 hs (by decide)) hp
 split at hr
 ·next h=>subst hr;exact (lg_step (ps.kind_bad h (by decide))).le (by decide)
 split at hr
 ·next h=>subst hr;exact ((lg_step (ps.kind_bad h (by decide))).trans (lg_longer (fun p=>decide_eq_false (by have:=(smk_one (hp p)).1;simp only at this;omega)))).le (by decide)
 ·subst hr;exact (ih.at 4 (by decide) (fu0 hs (by decide)) hp).le (by decide)
theorem lg_4 (ih:IhL zs T f) (hs:Fu T (f+1) 4 s) (hr:r=pz zs T (f+1) 4 n ks s) (hp:P→SmK r.1):Lg T s r.2.2 1 P:=by
 rw [ps.pz_4] at hr
 unfold ps.pB4 at hr
 dsimp only at hr
 split at hr
 ·next h =>
  subst hr
  have a:Lg T s (got zs T s {data:=#[40]}) 1 P:=lg_gotY h
  have b:=(a.trans (ih.at 0 (by decide) (a.fuel hs (by decide)) (fun p=>keep f 5 _ _ _ rfl (by decide) (hp p)))).trans (lg_want (zs:=zs) (t:={data:=#[41]}))
  exact (b.trans (ih.at5 (b.fuel hs (by decide)) (one_read f 0 _ _ _ (.inl rfl) (by rw [(ps.got_yes h).2];exact (ps.is_bad h).1) (a.fuel hs (by decide))) hp)).le (by decide)
 ·subst hr
  have a:Lg T s (nameS zs T s) 1 P:=lg_name (fun p=>(smk_one (keep f 5 _ _ _ rfl (by decide) (hp p))).2.2.1 _ List.mem_cons_self)
  exact (a.trans (ih.at5 (a.fuel hs (by decide)) rfl hp)).le (by decide)
theorem lg_5 (ih:IhL zs T f) (hs:Fu T (f+1) 5 s) (hk:ks.length=1) (hr:r=pz zs T (f+1) 5 n ks s) (hp:P→SmK r.1):Lg T s r.2.2 0 P:=by
 rw [ps.pz_5] at hr
 unfold ps.pB5 at hr
 dsimp only at hr
 split at hr
 ·subst hr;exact .refl
 split at hr
 ·next h =>
  subst hr
  have a:Lg T s (got zs T s {data:=#[46]}) 1 P:=lg_gotY h
  have b:=a.trans (lg_name (zs:=zs) (fun p=>(smk_one (smk_app.1 (smk_node.1 (keep f 5 _ _ _ rfl (by decide) (hp p))).2).2).1))
  exact (b.trans (ih.at5 (b.fuel hs (by decide)) rfl hp)).le (by decide)
 split at hr
 ·next h =>
  subst hr
  have a:Lg T s (got zs T s {data:=#[91]}) 1 P:=lg_gotY h
  have b:=(a.trans (ih.at 0 (by decide) (a.fuel hs (by decide)) (fun p=>(smk_app.1 (smk_node.1 (keep f 5 _ _ _ rfl (by decide) (hp p))).2).2))).trans (lg_want (zs:=zs) (t:={data:=#[93]}))
  exact (b.trans (ih.at5 (b.fuel hs (by decide)) rfl hp)).le (by decide)
 split at hr
 ·next h =>
  have a:Lg T s (got zs T s {data:=#[40]}) 1 P:=lg_gotY h
  by_cases h2:isP zs T (got zs T s {data:=#[40]}) {data:=#[41]}=true
  ·simp only [if_pos h2] at hr
   subst hr
   have b:=a.trans (lg_want (zs:=zs) (t:={data:=#[41]}))
   exact (b.trans (ih.at5 (b.fuel hs (by decide)) rfl hp)).le (by decide)
  ·simp only [if_neg h2] at hr
   subst hr
   have hq:=fun p=>smk_node.1 (keep f 5 _ _ _ rfl (by decide) (hp p))
   have b:=(a.trans (ih.at6 (a.fuel hs (by decide)) (fun p=>(smk_app.1 (hq p).2).2) (fun p=>by
    have:=(hq p).1.2.2.2.2.1 rfl
    simp only [List.length_append,hk] at this
    omega))).trans (lg_want (zs:=zs) (t:={data:=#[41]}))
   exact (b.trans (ih.at5 (b.fuel hs (by decide)) rfl hp)).le (by decide)
 ·subst hr;exact .refl
theorem lg_6 (ih:IhL zs T f) (hs:Fu T (f+1) 6 s) (hr:r=pz zs T (f+1) 6 n ks s) (hp:P→SmK r.1) (hl:P→r.1.length≤50):Lg T s r.2.2 0 P:=by
 rw [ps.pz_6] at hr
 unfold ps.pB6 at hr
 dsimp only at hr
 subst hr
 have a:=ih.at 0 (by decide) (fu0 hs (by decide)) (fun p=>keep f 7 _ _ _ rfl (by decide) (hp p))
 exact ((a.trans (ih.at 7 (by decide) (a.fuel hs (by decide)) hp)).trans (lg_longer (fun p=>decide_eq_false (by have:=hl p;simp only at this;omega)))).le (by decide)
theorem lg_7 (ih:IhL zs T f) (hs:Fu T (f+1) 7 s) (hr:r=pz zs T (f+1) 7 n ks s) (hp:P→SmK r.1):Lg T s r.2.2 0 P:=by
 rw [ps.pz_7] at hr
 unfold ps.pB7 at hr
 dsimp only at hr
 split at hr
 ·next h =>
  subst hr
  have a:Lg T s (got zs T s {data:=#[44]}) 1 P:=lg_gotY h
  have b:=a.trans (ih.at 0 (by decide) (a.fuel hs (by decide)) (fun p=>(smk_app.1 (keep f 7 _ _ _ rfl (by decide) (hp p))).2))
  exact (b.trans (ih.at 7 (by decide) (b.fuel hs (by decide)) hp)).le (by decide)
 ·subst hr;exact .refl
theorem lg_8 (ih:IhL zs T f) (hs:Fu T (f+1) 8 s) (hr:r=pz zs T (f+1) 8 n ks s) (hp:P→SmK r.1):Lg T s r.2.2 0 P:=by
 rw [ps.pz_8] at hr
 unfold ps.pB8 at hr
 dsimp only at hr
 have a:Lg T s (want zs T s {data:=#[40]}) 1 P:=lg_want
 have fin:∀{m:List (List Int)} {q:Ps},Lg T s q 1 P→r=([tk.node ⟨19,0,[],m,0⟩ (pz zs T f 11 0 [] {want zs T q {data:=#[41]} with loop:=false}).1],0,want zs T {(pz zs T f 11 0 [] {want zs T q {data:=#[41]} with loop:=false}).2.2 with loop:=(want zs T q {data:=#[41]}).loop} {data:=#[101,110,100]})→Lg T s r.2.2 0 P:=by
  rintro m q b rfl
  have c:=(b.trans (lg_want (zs:=zs) (t:={data:=#[41]}))).trans (lg_loop false)
  exact (((c.trans (ih.at 11 (by decide) (c.fuel hs (by decide)) (fun p=>(smk_node.1 (hp p)).2))).trans (lg_loop _)).trans lg_want).le (by decide)
 by_cases h2:isP zs T (want zs T s {data:=#[40]}) {data:=#[41]}=true
 ·simp only [if_pos h2] at hr
  exact fin a hr
 ·simp only [if_neg h2] at hr
  refine fin ((a.trans (lg_names (zs:=zs) (fun p=>?_))).le (by decide)) hr
  rw [hr] at hp
  exact ⟨(smk_node.1 (hp p)).1.2.2.1,(smk_node.1 (hp p)).1.2.1⟩
theorem lg_9 (ih:IhL zs T f) (hs:Fu T (f+1) 9 s) (hr:r=pz zs T (f+1) 9 n ks s) (hp:P→SmK r.1):Lg T s r.2.2 0 P:=by
 rw [ps.pz_9] at hr
 unfold ps.pB9 at hr
 dsimp only at hr
 subst hr
 have a:Lg T s (want zs T s {data:=#[123]}) 1 P:=lg_want
 exact ((a.trans (ih.at 10 (by decide) (a.fuel hs (by decide)) (fun p=>(smk_node.1 (hp p)).2))).trans lg_want).le (by decide)
theorem lg_10b (ih:IhL zs T f) {q:Ps} {m:Int} {kk:List (List Nd)} (hs:Fu T (f+1) 10 s) (a:(P→SmK kk)→Lg T s q 0 P) (hr:r=if isP zs T (pz zs T f 0 1 [] q).2.2 {data:=#[44]}=true then pz zs T f 10 m (ks++kk++(pz zs T f 0 1 [] q).1) (got zs T (pz zs T f 0 1 [] q).2.2 {data:=#[44]}) else (ks++kk++(pz zs T f 0 1 [] q).1,m,(pz zs T f 0 1 [] q).2.2)) (hp:P→SmK r.1):Lg T s r.2.2 0 P:=by
 have h:P→SmK (ks++kk++(pz zs T f 0 1 [] q).1):=fun p=>by
  have:=hp p
  rw [hr] at this
  split at this
  ·exact keep f 10 _ _ _ rfl (by decide) this
  ·exact this
 have a:=a (fun p=>(smk_app.1 (smk_app.1 (h p)).1).2)
 have b:=a.trans (ih.at 0 (by decide) (a.fuel hs (by decide)) (fun p=>(smk_app.1 (h p)).2))
 split at hr
 ·next hi =>
  subst hr
  have c:=b.trans (lg_gotY hi)
  exact (c.trans (ih.at 10 (by decide) (c.fuel hs (by decide)) hp)).le (by decide)
 ·subst hr;exact b.le (by decide)
theorem lg_10 (ih:IhL zs T f) (hs:Fu T (f+1) 10 s) (hr:r=pz zs T (f+1) 10 n ks s) (hp:P→SmK r.1):Lg T s r.2.2 0 P:=by
 rw [ps.pz_10] at hr
 unfold ps.pB10 at hr
 dsimp only at hr
 by_cases h0:0≤s.bad∨isP zs T s {data:=#[125]}=true
 ·rw [if_pos h0] at hr;subst hr;exact .refl
 rw [if_neg h0] at hr
 by_cases h1:ps.named zs T s=true
 ·simp only [if_pos h1] at hr
  exact lg_10b ih hs (fun h=>((lg_name (fun p=>(smk_one (h p)).1)).trans lg_want).le (by decide)) hr hp
 ·simp only [if_neg h1] at hr
  by_cases h2:isP zs T s {data:=#[91]}=true
  ·simp only [if_pos h2] at hr
   have a:Lg T s (got zs T s {data:=#[91]}) 1 P:=lg_gotY h2
   exact lg_10b ih hs (fun h=>(((a.trans (ih.at 0 (by decide) (a.fuel hs (by decide)) h)).trans lg_want).trans lg_want).le (by decide)) hr hp
  ·simp only [if_neg h2] at hr
   exact lg_10b ih hs (fun _=>.refl) hr hp
theorem lg_11 (ih:IhL zs T f) (hs:Fu T (f+1) 11 s) (hr:r=pz zs T (f+1) 11 n ks s) (hp:P→SmK r.1):Lg T s r.2.2 0 P:=by
 rw [ps.pz_11] at hr
 unfold ps.pB11 at hr
 dsimp only at hr
 subst hr
 exact ih.at 12 (by decide) (fu0 hs (by decide)) (fun p=>(smk_node.1 (hp p)).2)
theorem lg_12 (ih:IhL zs T f) (hs:Fu T (f+1) 12 s) (hr:r=pz zs T (f+1) 12 n ks s) (hp:P→SmK r.1):Lg T s r.2.2 0 P:=by
 rw [ps.pz_12] at hr
 unfold ps.pB12 at hr
 dsimp only at hr
 split at hr
 ·subst hr;exact .refl
 split at hr
 ·next h =>
  have a:Lg T s (got zs T s {data:=#[114,101,116,117,114,110]}) 1 P:=lg_gotY h
  by_cases h2:starts zs T (got zs T s {data:=#[114,101,116,117,114,110]})=true
  ·simp only [if_pos h2] at hr
   subst hr
   have hq:=fun p=>smk_node.1 (smk_app.1 (hp p)).2
   exact ((a.trans (ih.at6 (a.fuel hs (by decide)) (fun p=>(hq p).2) (fun p=>by have:=(hq p).1.2.2.2.1 (.inr rfl);simp only at this;omega))).trans lg_got).le (by decide)
  ·simp only [if_neg h2] at hr
   subst hr
   exact (a.trans lg_got).le (by decide)
 split at hr
 ·subst hr;exact (lg_got.trans lg_got).le (by decide)
 ·subst hr
  have b:=(ih.at 13 (by decide) (fu0 hs (by decide)) (fun p=>(smk_app.1 (keep f 12 _ _ _ rfl (by decide) (hp p))).2)).trans (lg_got (zs:=zs) (t:={data:=#[59]}))
  exact (b.trans (ih.at 12 (by decide) (b.fuel hs (by decide)) hp)).le (by decide)
theorem lg_13 (ih:IhL zs T f) (hs:Fu T (f+1) 13 s) (hr:r=pz zs T (f+1) 13 n ks s) (hp:P→SmK r.1):Lg T s r.2.2 1 P:=by
 rw [ps.pz_13] at hr
 unfold ps.pB13 at hr
 dsimp only at hr
 split at hr
 ·next h =>
  have a:Lg T s (got zs T s {data:=#[108,111,99,97,108]}) 1 P:=lg_gotY h
  split at hr
  ·next h2 =>
   subst hr
   have b:=(a.trans (lg_gotY h2)).trans (lg_name (zs:=zs) (fun p=>(smk_node.1 (hp p)).1.2.2.1 _ List.mem_cons_self))
   exact (b.trans (ih.at 8 (by decide) (b.fuel hs (by decide)) (fun p=>(smk_node.1 (hp p)).2))).le (by decide)
  ·have hq:P→Sml ⟨1,0,[],(names zs T (got zs T s {data:=#[108,111,99,97,108]})).1,_⟩∧SmK _:=fun p=>by
    have:=hp p
    rw [hr] at this
    exact smk_node.1 this
   have b:=a.trans (lg_names (zs:=zs) (fun p=>⟨(hq p).1.2.2.1,(hq p).1.2.1⟩))
   by_cases h3:isP zs T (names zs T (got zs T s {data:=#[108,111,99,97,108]})).2 {data:=#[61]}=true
   ·simp only [if_pos h3] at hr hq
    subst hr
    have c:=b.trans (lg_gotY h3)
    exact (c.trans (ih.at6 (c.fuel hs (by decide)) (fun p=>(hq p).2) (fun p=>by have:=(hq p).1.2.2.2.1 (.inl rfl);simp only at this;omega))).le (by decide)
   ·simp only [if_neg h3] at hr
    subst hr
    exact b.le (by decide)
 split at hr
 ·next h =>
  subst hr
  have a:Lg T s (got zs T s {data:=#[100,111]}) 1 P:=lg_gotY h
  exact ((a.trans (ih.at 11 (by decide) (a.fuel hs (by decide)) (fun p=>(smk_node.1 (hp p)).2))).trans lg_want).le (by decide)
 split at hr
 ·next h =>
  subst hr
  have a:Lg T s (got zs T s {data:=#[119,104,105,108,101]}) 1 P:=lg_gotY h
  have b:=((a.trans (ih.at 0 (by decide) (a.fuel hs (by decide)) (fun p=>(smk_app.1 (smk_node.1 (hp p)).2).1))).trans (lg_want (zs:=zs) (t:={data:=#[100,111]}))).trans (lg_loop true)
  exact (((b.trans (ih.at 11 (by decide) (b.fuel hs (by decide)) (fun p=>(smk_app.1 (smk_node.1 (hp p)).2).2))).trans (lg_loop _)).trans lg_want).le (by decide)
 split at hr
 ·next h =>
  subst hr
  have a:Lg T s {got zs T s {data:=#[114,101,112,101,97,116]} with loop:=true} (1+0) P:=(lg_gotY h).trans (lg_loop true)
  have b:=((a.trans (ih.at 11 (by decide) (a.fuel hs (by decide)) (fun p=>(smk_app.1 (smk_node.1 (hp p)).2).1))).trans (lg_loop (got zs T s {data:=#[114,101,112,101,97,116]}).loop)).trans (lg_want (zs:=zs) (t:={data:=#[117,110,116,105,108]}))
  exact (b.trans (ih.at 0 (by decide) (b.fuel hs (by decide)) (fun p=>(smk_app.1 (smk_node.1 (hp p)).2).2))).le (by decide)
 split at hr
 ·next h =>
  subst hr
  have a:Lg T s (got zs T s {data:=#[105,102]}) 1 P:=lg_gotY h
  exact (a.trans (ih.at 14 (by decide) (a.fuel hs (by decide)) hp)).le (by decide)
 split at hr
 ·next h =>
  have a:Lg T s (got zs T s {data:=#[102,111,114]}) 1 P:=lg_gotY h
  have fin:∀{A B C:List (List Nd)} {q:Ps} {cc:Int},(P→Sml ⟨7,0,[],[nameT zs T (got zs T s {data:=#[102,111,114]})],cc⟩∧SmK (A++B++C++(pz zs T f 11 0 [] {want zs T q {data:=#[100,111]} with loop:=true}).1))→((P→(nameT zs T (got zs T s {data:=#[102,111,114]})).length≤5000)→(P→SmK A)→(P→SmK B)→(P→SmK C)→Lg T s q 1 P)→Lg T s (want zs T {(pz zs T f 11 0 [] {want zs T q {data:=#[100,111]} with loop:=true}).2.2 with loop:=(want zs T q {data:=#[100,111]}).loop} {data:=#[101,110,100]}) 1 P:=by
   intro A B C q cc hq hc
   have h2:=fun p=>smk_app.1 (hq p).2
   have h3:=fun p=>smk_app.1 (h2 p).1
   have h4:=fun p=>smk_app.1 (h3 p).1
   have c:=((hc (fun p=>(hq p).1.2.2.1 _ List.mem_cons_self) (fun p=>(h4 p).1) (fun p=>(h4 p).2) (fun p=>(h3 p).2)).trans (lg_want (zs:=zs) (t:={data:=#[100,111]}))).trans (lg_loop true)
   exact (((c.trans (ih.at 11 (by decide) (c.fuel hs (by decide)) (fun p=>(h2 p).2))).trans (lg_loop _)).trans lg_want).le (by decide)
  by_cases h3:isP zs T (pz zs T f 0 1 [] (want zs T (pz zs T f 0 1 [] (want zs T (nameS zs T (got zs T s {data:=#[102,111,114]})) {data:=#[61]})).2.2 {data:=#[44]})).2.2 {data:=#[44]}=true
  ·simp only [if_pos h3] at hr
   subst hr
   refine fin (fun p=>smk_node.1 (hp p)) (fun g1 g2 g3 g4=>?_)
   have b:=(a.trans (lg_name g1)).trans (lg_want (zs:=zs) (t:={data:=#[61]}))
   have c:=(b.trans (ih.at 0 (by decide) (b.fuel hs (by decide)) g2)).trans (lg_want (zs:=zs) (t:={data:=#[44]}))
   have d:=(c.trans (ih.at 0 (by decide) (c.fuel hs (by decide)) g3)).trans (lg_gotY h3)
   exact (d.trans (ih.at 0 (by decide) (d.fuel hs (by decide)) g4)).le (by decide)
  ·simp only [if_neg h3] at hr
   subst hr
   refine fin (fun p=>smk_node.1 (hp p)) (fun g1 g2 g3 _=>?_)
   have b:=(a.trans (lg_name g1)).trans (lg_want (zs:=zs) (t:={data:=#[61]}))
   have c:=(b.trans (ih.at 0 (by decide) (b.fuel hs (by decide)) g2)).trans (lg_want (zs:=zs) (t:={data:=#[44]}))
   exact (c.trans (ih.at 0 (by decide) (c.fuel hs (by decide)) g3)).le (by decide)
 ·subst hr;exact ih.at 16 (by decide) (fu0 hs (by decide)) hp
theorem lg_14 (ih:IhL zs T f) (hs:Fu T (f+1) 14 s) (hr:r=pz zs T (f+1) 14 n ks s) (hp:P→SmK r.1):Lg T s r.2.2 0 P:=by
 rw [ps.pz_14] at hr
 unfold ps.pB14 at hr
 dsimp only at hr
 generalize hY:pz zs T f 15 0 _ _=Y at hr
 have y:(P→SmK Y.1)→Lg T s Y.2.2 1 P:=fun h=>by
  rw [← hY] at h ⊢
  have hk:=fun p=>smk_app.1 (keep f 15 _ _ _ rfl (by decide) (h p))
  have a:=(ih.at 0 (by decide) (fu0 hs (by decide)) (fun p=>(hk p).1)).trans (lg_want (zs:=zs) (t:={data:=#[116,104,101,110]}))
  have b:=a.trans (ih.at 11 (by decide) (a.fuel hs (by decide)) (fun p=>(hk p).2))
  exact (b.trans (ih.at 15 (by decide) (b.fuel hs (by decide)) h)).le (by decide)
 by_cases h2:isP zs T Y.2.2 {data:=#[101,108,115,101]}=true
 ·simp only [if_pos h2] at hr
  subst hr
  have hk:=fun p=>smk_app.1 (smk_node.1 (hp p)).2
  have c:=(y (fun p=>(hk p).1)).trans (lg_gotY h2)
  exact ((c.trans (ih.at 11 (by decide) (c.fuel hs (by decide)) (fun p=>(hk p).2))).trans lg_want).le (by decide)
 ·simp only [if_neg h2] at hr
  subst hr
  exact ((y (fun p=>(smk_node.1 (hp p)).2)).trans lg_want).le (by decide)
theorem lg_15 (ih:IhL zs T f) (hs:Fu T (f+1) 15 s) (hr:r=pz zs T (f+1) 15 n ks s) (hp:P→SmK r.1):Lg T s r.2.2 0 P:=by
 rw [ps.pz_15] at hr
 unfold ps.pB15 at hr
 dsimp only at hr
 split at hr
 ·next h =>
  subst hr
  have hk:=fun p=>smk_app.1 (keep f 15 _ _ _ rfl (by decide) (hp p))
  have a:Lg T s (got zs T s {data:=#[101,108,115,101,105,102]}) 1 P:=lg_gotY h
  have b:=(a.trans (ih.at 0 (by decide) (a.fuel hs (by decide)) (fun p=>(smk_app.1 (hk p).1).2))).trans (lg_want (zs:=zs) (t:={data:=#[116,104,101,110]}))
  have c:=b.trans (ih.at 11 (by decide) (b.fuel hs (by decide)) (fun p=>(hk p).2))
  exact (c.trans (ih.at 15 (by decide) (c.fuel hs (by decide)) hp)).le (by decide)
 ·subst hr;exact .refl
theorem lg_16 (ih:IhL zs T f) (hs:Fu T (f+1) 16 s) (hr:r=pz zs T (f+1) 16 n ks s) (hp:P→SmK r.1):Lg T s r.2.2 1 P:=by
 rw [ps.pz_16] at hr
 unfold ps.pB16 at hr
 dsimp only at hr
 split at hr
 ·subst hr
  exact ih.at 4 (by decide) (fu0 hs (by decide)) (fun p=>(smk_node.1 (hp p)).2)
 ·generalize hY:pz zs T f 17 _ _ _=Y at hr
  have y:(P→SmK Y.1)→(P→Y.1.length≤50)→Lg T s (want zs T (longer Y.2.2 (decide (50<Y.1.length))) {data:=#[61]}) 2 P:=fun h hl=>by
   have hl:P→decide (50<Y.1.length)=false:=fun p=>decide_eq_false (by have:=hl p;omega)
   rw [← hY] at h hl ⊢
   have a:=ih.at 4 (by decide) (fu0 hs (by decide)) (fun p=>keep f 17 _ _ _ rfl (by decide) (h p))
   exact (((a.trans (ih.at 17 (by decide) (a.fuel hs (by decide)) h)).trans (lg_longer hl)).trans lg_want).le (by decide)
  by_cases h2:(want zs T (longer Y.2.2 (decide (50<Y.1.length))) {data:=#[61]}).bad<0
  ·simp only [if_pos h2] at hr
   subst hr
   have hk:=fun p=>smk_node.1 (hp p)
   have h1:=fun p=>smk_app.1 (hk p).2
   have c:=y (fun p=>(h1 p).1) (fun p=>by have:=((hk p).1.2.2.2.2.2.1 rfl).1;simp only at this;omega)
   exact (c.trans (ih.at6 (c.fuel hs (by decide)) (fun p=>(h1 p).2) (fun p=>by have:=((hk p).1.2.2.2.2.2.1 rfl).2;simp only [List.length_append] at this;omega))).le (by decide)
  ·simp only [if_neg h2] at hr
   subst hr
   exact fun hb=>absurd hb h2
theorem lg_17 (ih:IhL zs T f) (hs:Fu T (f+1) 17 s) (hr:r=pz zs T (f+1) 17 n ks s) (hp:P→SmK r.1):Lg T s r.2.2 0 P:=by
 rw [ps.pz_17] at hr
 unfold ps.pB17 at hr
 dsimp only at hr
 split at hr
 ·subst hr;exact .refl
 by_cases hw:¬n=116∨(¬isP zs T s {data:=#[61]}=true∧¬isP zs T s {data:=#[44]}=true)
 ·simp only [if_pos hw] at hr
  have h0:=(ps.wrong_f zs T s).2
  rw [if_neg (by rw [is_off h0];decide)] at hr
  subst hr
  exact fun hb=>by simp only at hb;omega
 ·simp only [if_neg hw] at hr
  split at hr
  ·next h =>
   subst hr
   have a:Lg T s (got zs T s {data:=#[44]}) 1 P:=lg_gotY h
   have b:=a.trans (ih.at 4 (by decide) (a.fuel hs (by decide)) (fun p=>(smk_app.1 (keep f 17 _ _ _ rfl (by decide) (hp p))).2))
   exact (b.trans (ih.at 17 (by decide) (b.fuel hs (by decide)) hp)).le (by decide)
  ·subst hr;exact .refl
end
theorem lg_all {zs:List Int} {T:List (Int×Nat×Nat)}:∀f,IhL zs T f:=by
 intro f
 induction f with
 |zero =>
  intro tag n ks s P ht hs _ _ _ hb
  have:=(hs hb).2
  have hc:1≤cOk tag:=by
   have:tag=0∨tag=1∨tag=2∨tag=3∨tag=4∨tag=5∨tag=6∨tag=7∨tag=8∨tag=9∨tag=10∨tag=11∨tag=12∨tag=13∨tag=14∨tag=15∨tag=16∨tag=17:=by omega
   rcases this with rfl|rfl|rfl|rfl|rfl|rfl|rfl|rfl|rfl|rfl|rfl|rfl|rfl|rfl|rfl|rfl|rfl|rfl <;> decide
  omega
 |succ f ih =>
  intro tag n ks s P ht hs h5 hp h6
  have:tag=0∨tag=1∨tag=2∨tag=3∨tag=4∨tag=5∨tag=6∨tag=7∨tag=8∨tag=9∨tag=10∨tag=11∨tag=12∨tag=13∨tag=14∨tag=15∨tag=16∨tag=17:=by omega
  rcases this with rfl|rfl|rfl|rfl|rfl|rfl|rfl|rfl|rfl|rfl|rfl|rfl|rfl|rfl|rfl|rfl|rfl|rfl
  ·exact lg_0 ih hs rfl hp
  ·exact lg_1 ih hs rfl hp
  ·exact lg_2 ih hs rfl hp
  ·exact lg_3 ih hs rfl hp
  ·exact lg_4 ih hs rfl hp
  ·exact lg_5 ih hs (h5 rfl) rfl hp
  ·exact lg_6 ih hs rfl hp (h6 rfl)
  ·exact lg_7 ih hs rfl hp
  ·exact lg_8 ih hs rfl hp
  ·exact lg_9 ih hs rfl hp
  ·exact lg_10 ih hs rfl hp
  ·exact lg_11 ih hs rfl hp
  ·exact lg_12 ih hs rfl hp
  ·exact lg_13 ih hs rfl hp
  ·exact lg_14 ih hs rfl hp
  ·exact lg_15 ih hs rfl hp
  ·exact lg_16 ih hs rfl hp
  ·exact lg_17 ih hs rfl hp
theorem named_sml {nn:Int} {tx:List Int} {nms:List (List Int)} {lo hi:Nat} (h:vt.named nn tx nms lo hi=true) (hh:hi≤50):tx.length≤5000∧nms.length≤50∧(∀m∈nms,m.length≤5000)∧(tx=[]∨nms=[]):=by
 simp only [vt.named,Bool.and_eq_true,decide_eq_true_eq,List.all_eq_true] at h
 refine ⟨by omega,by omega,fun m hm=>?_,.inl (List.length_eq_zero_iff.1 h.2.1)⟩
 have:=h.2.2.2.2 m hm
 unfold isName at this
 simp only [Bool.and_eq_true,decide_eq_true_eq] at this
 exact this.2.1
theorem numbered_sml {nn lo hi:Int} {tx:List Int} {nms:List (List Int)} (h:numbered nn tx nms lo hi=true):tx.length≤5000∧nms.length≤50∧(∀m∈nms,m.length≤5000)∧(tx=[]∨nms=[]):=by
 simp only [numbered,Bool.and_eq_true,decide_eq_true_eq] at h
 refine ⟨by omega,by omega,fun m hm=>?_,.inr (List.length_eq_zero_iff.1 h.2.2.2)⟩
 rw [List.length_eq_zero_iff.1 h.2.2.2] at hm
 cases hm
theorem leaf_sml {tx:List Int} {nms:List (List Int)} (h1:tx.length≤5000) (h2:nms.length=0):tx.length≤5000∧nms.length≤50∧(∀m∈nms,m.length≤5000)∧(tx=[]∨nms=[]):=by
 refine ⟨h1,by omega,fun m hm=>?_,.inr (List.length_eq_zero_iff.1 h2)⟩
 rw [List.length_eq_zero_iff.1 h2] at hm
 cases hm
theorem ite_or {c:Prop} [Decidable c] {a b:Bool} (h:(if c then a else b)=true):a=true∨b=true:=by
 by_cases hc:c
 ·rw [if_pos hc] at h;exact .inl h
 ·rw [if_neg hc] at h;exact .inr h
theorem fits_sml {kd nn:Int} {tx:List Int} {nms:List (List Int)} {ks:List Int} (h:fitsI kd nn tx nms ks=true):tx.length≤5000∧nms.length≤50∧(∀m∈nms,m.length≤5000)∧(tx=[]∨nms=[]):=by
 unfold fitsI at h
 iterate 22
  rcases ite_or h with h|h
  ·simp only [Bool.and_eq_true] at h
   first|exact named_sml h.1 (by decide)|exact named_sml h.2.1 (by decide)|exact numbered_sml h.1|exact leaf_sml (by have:=h.1;simp only [decide_eq_true_eq] at this;omega) (by have:=h.2.1;simpa using this)|exact leaf_sml (by have:=h.2.1;simpa using this) (by have:=h.2.2.1;simpa using this)
 simp only [Bool.and_eq_true] at h
 exact named_sml h.1 (by decide)
theorem row_sml {d:Nd} {ks:List Int} (h:fitsI d.kind d.n d.text d.names ks=true) (hc:d.count=ks.length):Sml d:=by
 obtain ⟨h1,h2,h3,h4⟩:=fits_sml h
 refine ⟨h1,h2,h3,?_,?_,?_,h4⟩
 ·rintro (e|e) <;> rw [e] at h <;> simp [fitsI,takesAll] at h <;> omega
 ·intro e
  rw [e] at h
  simp [fitsI,takesAll] at h
  omega
 ·intro e
  rw [e] at h
  simp [fitsI,takesAll,numbered] at h
  omega
theorem loop_sml {l:List Nd} {D deep:Nat} {lp:Bool} (ih:∀(i e:Nat) (t:Tr D),treeAt l D i=some (t,e)→okT t deep lp=true→∀j,i≤j→j<e→Sml (l.getD j nd0)):∀(c p e:Nat) (ts:List (Tr D)),loopT (treeAt l D) c p=some (ts,e)→ts.all (fun t=>okT t deep lp)=true→∀j,p≤j→j<e→Sml (l.getD j nd0)
 |0,p,e,ts,h,_,j,h1,h2=>by
  simp only [loopT,Option.some.injEq,Prod.mk.injEq] at h
  omega
 |c+1,p,e,ts,h,ha,j,h1,h2=>by
  obtain ⟨t,m,r,e1,e2,rfl⟩:=loopT_cons h
  simp only [List.all_cons,Bool.and_eq_true] at ha
  by_cases hj:j<m
  ·exact ih _ _ _ e1 ha.1 j h1 hj
  ·exact loop_sml ih c m e r e2 ha.2 j (by omega) h2
theorem tree_sml {l:List Nd}:∀(D i e deep:Nat) (lp:Bool) (t:Tr D),treeAt l D i=some (t,e)→okT t deep lp=true→∀j,i≤j→j<e→Sml (l.getD j nd0):=by
 intro D
 induction D with
 |zero=>intro i e deep lp t h;simp [treeAt] at h
 |succ D ih =>
  intro i e deep lp t h ho j h1 h2
  obtain ⟨⟨_,_,_,h4⟩,ks,rfl,hl⟩:=treeAt_inv h
  rw [okT_mk] at ho
  simp only [Bool.and_eq_true] at ho
  by_cases hj:j=i
  ·subst hj
   refine row_sml ho.1.2.1 ?_
   rw [List.length_map,loopT_len hl]
   show cnt l j=_
   omega
  ·exact loop_sml (fun i' e' t'=>ih i' e' (deep+1) (innerOf (l.getD i nd0).kind lp) t') _ _ _ _ hl ho.2 j (by omega) h2
theorem valid_sml {l:List Nd} (h:valid l=true):SmK [l]:=by
 rw [valid_eq] at h
 unfold validI at h
 simp only [Bool.and_eq_true] at h
 intro k hk x hx
 rw [List.mem_singleton.1 hk] at hx
 obtain ⟨j,hj,rfl⟩:=List.getElem_of_mem hx
 have h2:=h.2
 cases hg:growV l with
 |none=>rw [hg] at h2;cases h2
 |some t =>
  rw [hg] at h2
  unfold growV at hg
  cases ht:treeAt l (l.length+1) 0 with
  |none=>rw [ht] at hg;cases hg
  |some p =>
   obtain ⟨t',e⟩:=p
   rw [ht] at hg
   simp only at hg
   split at hg
   ·cases hg
    unfold isValidT at h2
    simp only [Bool.and_eq_true] at h2
    have:=tree_sml _ _ _ _ _ _ ht h2.1 j (by omega) (by omega)
    rwa [List.getD_eq_getElem?_getD,List.getElem?_eq_getElem hj] at this
   ·cases hg
theorem long_no {zs:List Int} {T:List (Int×Nat×Nat)} {l:List Nd} (h1:(topS zs T).bad<0) (hl:(top zs T).1=[l]) (hv:valid l=true):(topS zs T).long=false:=by
 have e:topS zs T=(top zs T).2.2:=by
  unfold topS at h1 ⊢
  split
  ·next h =>
   rw [if_pos h] at h1
   have:=(ps.wrong_f zs T (top zs T).2.2).2
   omega
  ·rfl
 rw [e] at h1 ⊢
 have L:=lg_all (zs:=zs) (T:=T) (20*T.length+40) 11 0 [] s0 True (by decide) (fun _=>⟨Nat.zero_le _,by show 20*(T.length-0)+11≤_;omega⟩) (fun e=>absurd e (by decide)) (fun _=>by
  have:(pz zs T (20*T.length+40) 11 0 [] s0).1=[l]:=hl
  rw [this]
  exact valid_sml hv) (fun e=>absurd e (by decide))
 exact (L h1).2.2.2 trivial rfl
end ip
namespace ip
open Go.RowKit bts nod lex tk vt
open ps (own_far)
def OwE (w:World) (lo hi:Nat) (v:Value) (zs:List Int):Prop:=(zs=[]∧∃a c,v=.slice a 0 c)∨OwT w lo hi v zs
def OwF (w:World) (lo hi:Nat) (v:Value) (l:List (List Int)):Prop:=(l=[]∧∃a c,v=.slice a 0 c)∨OwTT w lo hi v l
theorem OwE.ch {w w':World} {B M lo hi:Nat} {v:Value} {zs:List Int} (h:OwE w lo hi v zs) (hc:Ch B M w w') (ha:hi≤B∨M≤lo):OwE w' lo hi v zs:=h.elim (fun h=>.inl h) (fun h=>.inr (h.ch hc ha))
theorem OwF.ch {w w':World} {B M lo hi:Nat} {v:Value} {l:List (List Int)} (h:OwF w lo hi v l) (hc:Ch B M w w') (ha:hi≤B∨M≤lo):OwF w' lo hi v l:=h.elim (fun h=>.inl h) (fun h=>.inr (h.ch hc ha))
theorem OwE.nil {w:World} {lo hi:Nat} {v:Value} (h:OwE w lo hi v []):∃a c,v=.slice a 0 c:=by
 rcases h with ⟨_,h⟩|h
 ·exact h
 ·rcases h.1.2 with ⟨rfl,_⟩|⟨g,c,cur,rfl,_⟩
  ·exact ⟨_,_,rfl⟩
  ·exact ⟨_,c,rfl⟩
theorem OwF.nil {w:World} {lo hi:Nat} {v:Value} (h:OwF w lo hi v []):∃a c,v=.slice a 0 c:=by
 rcases h with ⟨_,h⟩|⟨us,h,_⟩
 ·exact h
 ·rcases h.2 with ⟨rfl,_⟩|⟨g,c,cur,rfl,_⟩
  ·exact ⟨_,_,rfl⟩
  ·exact ⟨_,c,rfl⟩
theorem OwE.isS {w:World} {lo hi:Nat} {v:Value} {zs:List Int} (h:OwE w lo hi v zs):∃a c,v=.slice a zs.length c∧Rd w a zs:=by
 rcases h with ⟨rfl,a,c,rfl⟩|h
 ·exact ⟨a,c,rfl,fun i hi=>absurd hi (by simp)⟩
 ·obtain ⟨a,c,e,_,_,h,_⟩:=h.rc
  exact ⟨a,c,e,h⟩
theorem OwF.isS {w:World} {lo hi:Nat} {v:Value} {l:List (List Int)} (h:OwF w lo hi v l):∃a c,v=.slice a l.length c∧∀i,i<l.length→∃b off u,a=some ⟨b,off,none⟩∧w.cell? ⟨b,off+i,none⟩=some u∧RcV w u (l.getD i []):=by
 rcases h with ⟨rfl,a,c,rfl⟩|h
 ·exact ⟨a,c,rfl,fun i hi=>absurd hi (by simp)⟩
 ·obtain ⟨a,c,e,_,_,h⟩:=h.rc
  exact ⟨a,c,e,h⟩
theorem getD_mem {α:Type} {l:List α} {i:Nat} {z:α} (h:i<l.length):l.getD i z∈l:=by rw [List.getD_eq_getElem?_getD,List.getElem?_eq_getElem h];exact List.getElem_mem h
def Rw (w:World) (lo hi:Nat) (us:List Value) (i:Nat) (d:Nd):Prop:=∃ut un,us[i*5]?=some (.int .i64 d.kind)∧us[i*5+1]?=some (.int .i64 d.n)∧us[i*5+2]?=some ut∧us[i*5+3]?=some un∧us[i*5+4]?=some (.int .i64 d.count)∧OwE w lo hi ut d.text∧OwF w lo hi un d.names
def Rws (w:World) (bo:Nat→Nat) (us:List Value) (n:Nat) (D:Nat→Nd):Prop:=∀i,i<n→Rw w (bo i) (bo (i+1)) us i (D i)
theorem rwC_rws {w:World}:∀{l:List Nd} {B E:Nat} {us:List Value},RwC w B E us l→∃bo:Nat→Nat,bo 0=B∧(∀i,bo i≤bo (i+1))∧bo l.length≤E∧us.length=l.length*5∧Rws w bo us l.length (fun i=>l.getD i nd0)
 |[],B,E,us,h=>⟨fun _=>B,rfl,fun _=>Nat.le_refl _,h.2,by rw [h.1];rfl,fun i hi=>absurd hi (by simp)⟩
 |d::l,B,E,us,⟨ut,un,M,r,e,hB,h1,h2,h3⟩=>by
  obtain ⟨bo,e0,hm,hE,hl,hr⟩:=rwC_rws h3
  refine ⟨fun i=>match i with|0=>B|i+1=>bo i,rfl,fun i=>?_,hE,by rw [e];simp [hl];omega,fun i hi=>?_⟩
  ·cases i with
   |zero=>show B≤bo 0;omega
   |succ i=>exact hm i
  ·cases i with
   |zero =>
    refine ⟨ut,un,by rw [e];rfl,by rw [e];rfl,by rw [e];rfl,by rw [e];rfl,by rw [e];rfl,?_,?_⟩
    ·show OwE w B (bo 0) ut d.text;rw [e0];exact .inr h1
    ·show OwF w B (bo 0) un d.names;rw [e0];exact .inr h2
   |succ i =>
    obtain ⟨ut',un',c0,c1,c2,c3,c4,ht,hn⟩:=hr i (by simpa using hi)
    refine ⟨ut',un',?_,?_,?_,?_,?_,ht,hn⟩
    ·rw [e,show (i+1)*5=i*5+5 by omega];exact c0
    ·rw [e,show (i+1)*5+1=i*5+1+5 by omega];exact c1
    ·rw [e,show (i+1)*5+2=i*5+2+5 by omega];exact c2
    ·rw [e,show (i+1)*5+3=i*5+3+5 by omega];exact c3
    ·rw [e,show (i+1)*5+4=i*5+4+5 by omega];exact c4
theorem mono_le {bo:Nat→Nat} (h:∀i,bo i≤bo (i+1)) {i j:Nat} (hij:i≤j):bo i≤bo j:=by
 induction hij with
 |refl=>exact Nat.le_refl _
 |step _ ih=>exact Nat.le_trans ih (h _)
def kN (d:Nd) (k:Int):Int:=k+1+1+(d.text.length:Int)
def markN (d:Nd) (k:Int):Nd:=⟨k,k+1,marks (k+1+1) d.text.length,markSS d.names (kN d k),kSS d.names (kN d k) d.names.length⟩
def endN (d:Nd) (k:Int):Int:=kSS d.names (kN d k) d.names.length+1
def kL (l:List Nd):Nat→Int
 |0=>1
 |i+1=>endN (l.getD i nd0) (kL l i)
theorem endN_le {d:Nd} {k:Int} (h:Sml d):k+1+1≤kN d k∧kN d k≤k+5002∧kN d k<endN d k∧endN d k≤k+300000:=by
 have h1:=h.1
 have h2:=h.2.1
 have h3:=kSS_le (l:=d.names) (k:=kN d k) (m:=5000) (fun i hi=>h.2.2.1 _ (getD_mem hi)) d.names.length (Nat.le_refl _)
 unfold endN
 have e:kN d k=k+1+1+(d.text.length:Int):=rfl
 have h4:5000*d.names.length≤250000:=by omega
 omega
theorem kL_le {l:List Nd} (h:∀i,i<l.length→Sml (l.getD i nd0)):∀i,i≤l.length→1≤kL l i∧kL l i≤1+(300000*i:Nat)
 |0,_=>by simp [kL]
 |i+1,hi=>by
  have h1:=kL_le h i (by omega)
  have h2:=endN_le (k:=kL l i) (h i (by omega))
  have e:300000*(i+1)=300000*i+300000:=by omega
  simp only [kL]
  omega
def midL (l:List Nd) (k i:Nat):Nd:=if i<k then markN (l.getD i nd0) (kL l i) else l.getD i nd0
theorem midL_lt {l:List Nd} {k i:Nat} (h:i<k):midL l k i=markN (l.getD i nd0) (kL l i):=if_pos h
theorem midL_ge {l:List Nd} {k i:Nat} (h:¬i<k):midL l k i=l.getD i nd0:=if_neg h
theorem Rw.ch {w w':World} {B M lo hi i:Nat} {us:List Value} {d:Nd} (h:Rw w lo hi us i d) (hc:Ch B M w w') (ha:hi≤B∨M≤lo):Rw w' lo hi us i d:=by
 obtain ⟨ut,un,c0,c1,c2,c3,c4,ht,hn⟩:=h
 exact ⟨ut,un,c0,c1,c2,c3,c4,ht.ch hc ha,hn.ch hc ha⟩
theorem Rw.set {w:World} {lo hi i j:Nat} {us:List Value} {d:Nd} {u:Value} (h:Rw w lo hi us i d) (hj:j<i*5∨i*5+5≤j):Rw w lo hi (us.set j u) i d:=by
 obtain ⟨ut,un,c0,c1,c2,c3,c4,ht,hn⟩:=h
 exact ⟨ut,un,by rw [List.getElem?_set_ne (by omega)];exact c0,by rw [List.getElem?_set_ne (by omega)];exact c1,by rw [List.getElem?_set_ne (by omega)];exact c2,by rw [List.getElem?_set_ne (by omega)];exact c3,by rw [List.getElem?_set_ne (by omega)];exact c4,ht,hn⟩
def Mk2 (lo hi:Nat) (ut un:Value) (d:Nd) (k:Int) (w':World):Prop:=Calls Tryz.prog 23 #[un,.int .i64 (kN d k)] w' fun e W'=>e=.returned (.int .i64 (kSS d.names (kN d k) d.names.length))∧Ch lo hi w' W'∧OwE W' lo hi ut (marks (k+1+1) d.text.length)∧OwF W' lo hi un (markSS d.names (kN d k))
def Mk1 (lo hi:Nat) (ut un:Value) (d:Nd) (k:Int) (w:World):Prop:=Calls Tryz.prog 9 #[ut,.int .i64 (k+1+1)] w fun e w'=>e=.returned (.int .i64 (kN d k))∧Ch lo hi w w'∧Mk2 lo hi ut un d k w'
theorem mark_both {w:World} {lo hi:Nat} {ut un:Value} {d:Nd} (hd:Sml d) (ht:OwE w lo hi ut d.text) (hn:OwF w lo hi un d.names) (hlo:lo≤w.heap.size) (k:Int) (h0:0≤k) (h1:k≤10000000000):Mk1 lo hi ut un d k w:=by
 have hb:=endN_le (k:=k) hd
 have hsm:∀i,i<d.names.length→(d.names.getD i []).length≤5000:=fun i hi=>hd.2.2.1 _ (getD_mem hi)
 have h50:=hd.2.1
 have ht5:=hd.1
 rcases hd.2.2.2.2.2.2 with e|e
 ·rw [e] at ht
  obtain ⟨a,c,rfl⟩:=ht.nil
  have ek:kN d k=k+1+1:=by unfold kN;rw [e];simp
  refine (markByteS_nil a c (k+1+1) w).mono ?_
  rintro e' w' ⟨rfl,rfl⟩
  have et:∀W,OwE W lo hi (.slice a 0 c) (marks (k+1+1) d.text.length):=fun W=>.inl ⟨by rw [e];rfl,a,c,rfl⟩
  refine ⟨by rw [ek],.refl _ _ _,?_⟩
  rcases hn with ⟨el,a2,c2,rfl⟩|hn
  ·unfold Mk2
   rw [el]
   refine (markByteSS_nil a2 c2 (kN d k) w').mono ?_
   rintro e' W' ⟨rfl,rfl⟩
   exact ⟨rfl,.refl _ _ _,et _,.inl ⟨rfl,a2,c2,rfl⟩⟩
  ·refine (mark_names hn hlo (kN d k) (by omega) (by omega) h50 hsm).mono ?_
   rintro e'' W' ⟨rfl,h2,h3⟩
   exact ⟨rfl,h3,et _,.inr h2⟩
 ·rw [e] at hn
  obtain ⟨a2,c2,rfl⟩:=hn.nil
  have nx:∀w',OwE w' lo hi ut (marks (k+1+1) d.text.length)→Mk2 lo hi ut (.slice a2 0 c2) d k w':=fun w' h=>by
   unfold Mk2
   rw [e]
   refine (markByteSS_nil a2 c2 (kN d k) w').mono ?_
   rintro e' W' ⟨rfl,rfl⟩
   exact ⟨rfl,.refl _ _ _,h,.inl ⟨rfl,a2,c2,rfl⟩⟩
  rcases ht with ⟨et,a,c,rfl⟩|ht
  ·refine (markByteS_nil a c (k+1+1) w).mono ?_
   rintro e' w' ⟨rfl,rfl⟩
   refine ⟨by unfold kN;rw [et];simp,.refl _ _ _,nx _ (.inl ⟨by rw [et];rfl,a,c,rfl⟩)⟩
  ·refine (mark_text ht hlo (k+1+1) (by omega) (by omega) (by omega)).mono ?_
   rintro e' w' ⟨rfl,h2,_,h3⟩
   exact ⟨rfl,h3,nx _ (.inr h2)⟩
theorem ch_set {W:World} {g j lo hi:Nat} {v:Value} (h1:lo≤g) (h2:g<hi):Ch lo hi W (W.setCell ⟨g,j,none⟩ v) :=
 ⟨(Below.refl lo W).setCell (p:=⟨g,j,none⟩) h1 _,fun b _ hb=>Below.heap_setCell W ⟨g,j,none⟩ v b (fun e=>by have e2:b=g:=e;omega)⟩
theorem markNodeS_any {w:World} {bo:Nat→Nat} {l:List Nd} {g cap X:Nat} {us:List Value} (hR:Rws w bo us l.length (fun i=>l.getD i nd0)) (hm:∀i,bo i≤bo (i+1)) (hX:bo l.length≤X) (ho:w.ownsRow X 61 5 (.slice (some ⟨g,0,none⟩) l.length cap) l.length us) (hs:∀i,i<l.length→Sml (l.getD i nd0)) (hn:l.length≤6000) :
  Calls Tryz.prog 10 #[.slice (some ⟨g,0,none⟩) l.length cap,.int .i64 1] w fun e w'=>e=.returned (.int .i64 (kL l l.length))∧Below (bo 0) w w'∧∃us',w'.ownsRow X 61 5 (.slice (some ⟨g,0,none⟩) l.length cap) l.length us'∧Rws w' bo us' l.length (fun i=>markN (l.getD i nd0) (kL l i)):=by
 have HKL:Hid (∀i,i≤l.length→1≤kL l i∧kL l i≤1+(300000*i:Nat)):=kL_le hs
 have HS:Hid (∀i,i<l.length→Sml (l.getD i nd0)):=hs
 have HM:Hid (∀i j,i≤j→bo i≤bo j):=fun i j h=>mono_le hm h
 obtain ⟨n,hnn⟩:∃n,n=l.length:=⟨_,rfl⟩
 have HX:Hid (bo n≤X∧X≤g):=⟨by rw [hnn];exact hX,(ho.lt g rfl).1⟩
 have HN:Hid (l.length=n):=hnn.symm
 rw [← hnn] at hn hR ho ⊢
 have start:Hid (w.ownsRow X 61 5 (.slice (some ⟨g,0,none⟩) n cap) n us∧Rws w bo us n (midL l 0)):=⟨ho,fun i hi=>by rw [midL_ge (by omega)];exact hR i hi⟩
 clear hR hm hX ho hs hnn
 go_enter Tryz.func10,Tryz.ntmps10
 go_wp2
 go_loopw [1,5] (fun q i wr=>∃(k:Nat) (us:List Value),k≤n∧i=.int .i64 k∧q=.int .i64 (kL l k)∧Hid (wr.ownsRow X 61 5 (.slice (some ⟨g,0,none⟩) n cap) n us)∧Hid (Rws wr bo us n (midL l k))∧Hid (Below (bo 0) w wr)) (fun _ i _=>n-(intOf i).toNat)
 case atStart=>exact ⟨0,us,Nat.zero_le _,rfl,rfl,start.out.1,start.out.2,Below.refl _ _⟩
 case round =>
  clear start
  obtain ⟨k,us,hk,rfl,rfl,HO,HR,HBL⟩:=hrel
  by_cases hlt:k<n
  ·obtain ⟨ut,un,y0,y1,y2,y3,y4,ht,hnm⟩:=HR.out k hlt
   rw [midL_ge (by omega)] at y0 y1 y4 ht hnm
   have HL:Hid (us.length=n*5):=HO.out.1
   have f0:=HO.out.frozenAt (k*5)
   have f1:=HO.out.frozenAt (k*5+1)
   have e0:=(HO.out.cellAt (k*5) (by omega)).trans y0
   have e1:=(HO.out.cellAt (k*5+1) (by omega)).trans y1
   have e2:=(HO.out.cellAt (k*5+2) (by omega)).trans y2
   have hsm:=HS.out k (by rw [HN.out];exact hlt)
   have hkl:=HKL.out k (by rw [HN.out];omega)
   have hgx:=HX.out
   have hbm:=HM.out (k+1) n (by omega)
   have hlo:bo k≤wr.heap.size:=by have:=HM.out k n (by omega);have:=(HO.out.lt g rfl).2;omega
   have O2:=((HO.out.stored (k*5) (.int .i64 (kL l k))).1.stored (k*5+1) (.int .i64 (kL l k+1))).1
   have C2:Ch X (g+1) wr ((wr.setCell ⟨g,k*5,none⟩ (.int .i64 (kL l k))).setCell ⟨g,k*5+1,none⟩ (.int .i64 (kL l k+1))):=(ch_set (by omega) (by omega)).trans (ch_set (by omega) (by omega))
   have CM:=mark_both hsm (ht.ch C2 (.inl (by omega))) (hnm.ch C2 (.inl (by omega))) (by have:=C2.1.size;omega) (kL l k) (by omega) (by omega)
   have HCM:Hid (Mk1 (bo k) (bo (k+1)) ut un (l.getD k nd0) (kL l k) ((wr.setCell ⟨g,k*5,none⟩ (.int .i64 (kL l k))).setCell ⟨g,k*5+1,none⟩ (.int .i64 (kL l k+1)))):=CM
   have HO2:Hid (World.ownsRow ((wr.setCell ⟨g,k*5,none⟩ (.int .i64 (kL l k))).setCell ⟨g,k*5+1,none⟩ (.int .i64 (kL l k+1))) X 61 5 (.slice (some ⟨g,0,none⟩) n cap) n ((us.set (k*5) (.int .i64 (kL l k))).set (k*5+1) (.int .i64 (kL l k+1)))):=O2
   have HC2:Hid (Ch X (g+1) wr ((wr.setCell ⟨g,k*5,none⟩ (.int .i64 (kL l k))).setCell ⟨g,k*5+1,none⟩ (.int .i64 (kL l k+1)))):=C2
   have HY:Hid (us[k*5+2]?=some ut∧us[k*5+3]?=some un):=⟨y2,y3⟩
   have HY4:Hid (us[k*5+4]?=some (.int .i64 (l.getD k nd0).count)):=y4
   have hkb:0≤kL l k∧kL l k≤10000000000:=by omega
   have HEE:Hid (kN (l.getD k nd0) (kL l k)≤100000000000∧0≤kSS (l.getD k nd0).names (kN (l.getD k nd0) (kL l k)) (l.getD k nd0).names.length∧kSS (l.getD k nd0).names (kN (l.getD k nd0) (kL l k)) (l.getD k nd0).names.length≤100000000000):=by
    have h1:=endN_le (k:=kL l k) hsm
    have h2:endN (l.getD k nd0) (kL l k)=kSS (l.getD k nd0).names (kN (l.getD k nd0) (kL l k)) (l.getD k nd0).names.length+1:=rfl
    refine ⟨by omega,by omega,by omega⟩
   have hee:=HEE.out.2
   clear ht hnm y0 y1 y2 y3 y4 CM O2 C2 hkl hgx hbm hlo
   generalize hq:kL l k=q at *
   have HQ:Hid (kL l k=q):=hq
   clear hq
   generalize hd:l.getD k nd0=d at *
   have HD:Hid (l.getD k nd0=d):=hd
   clear hd
   go_wp2_with (first
    |(go_at_call 9;(refine Calls.mono HCM.out ?_;rintro e w3 ⟨rfl,hc3,hcm3⟩;have HC3:Hid (Ch (bo k) (bo (k+1)) _ w3):=hc3;have HCN:Hid (Mk2 (bo k) (bo (k+1)) ut un d q w3):=hcm3;have o3:=own_far HO2.out (w':=w3) (fun b e=>hc3.2 b (HO2.out.lt b e).2 (by cases e;show bo (k+1)≤g;have h1:=HX.out;have h2:=HM.out (k+1) n (by omega);omega));have e3:w3.cell? ⟨g,k*5+3,none⟩=some un:=(o3.cellAt (k*5+3) (by omega)).trans (by rw [List.getElem?_set_ne (by omega),List.getElem?_set_ne (by omega)];exact HY.out.2);have HO3:Hid (World.ownsRow w3 X 61 5 (.slice (some ⟨g,0,none⟩) n cap) n _):=o3;clear o3 hc3 hcm3))
    |(go_at_call 23;refine Calls.mono HCN.out ?_;rintro e w4 ⟨rfl,hc4,het,hfn⟩;have HC4:Hid (Ch (bo k) (bo (k+1)) w3 w4):=hc4;have HET:Hid (OwE w4 _ _ _ _):=het;have HFN:Hid (OwF w4 _ _ _ _):=hfn;have o4:=own_far HO3.out (w':=w4) (fun b e=>hc4.2 b (HO3.out.lt b e).2 (by cases e;show bo (k+1)≤g;have h1:=HX.out;have h2:=HM.out (k+1) n (by omega);omega));have e4:w4.cell? ⟨g,k*5+4,none⟩=some (.int .i64 d.count):=(o4.cellAt (k*5+4) (by omega)).trans (by rw [List.getElem?_set_ne (by omega),List.getElem?_set_ne (by omega)];exact HY4.out);have f4:=o4.frozenAt (k*5+4);have HO4:Hid (World.ownsRow w4 X 61 5 (.slice (some ⟨g,0,none⟩) n cap) n _):=o4;clear o4 hc4 het hfn))
   go_roundw
   case rel =>
    have hl:=HL.out
    have h1:=HX.out
    have h2:=HM.out (k+1) n (by omega)
    have s4:=HO4.out.stored (k*5+4) (.int .i64 (kSS d.names (kN d q) d.names.length))
    have h3:=HM.out 0 k (by omega)
    have h4:=HM.out 0 n (by omega)
    have C50:Ch X (g+1) w4 (w4.setCell ⟨g,k*5+4,none⟩ (.int .i64 (kSS d.names (kN d q) d.names.length))):=ch_set (by omega) (by omega)
    refine ⟨k+1,_,by omega,by go_num,?_,s4.1,fun i hi=>?_,(((HBL.out.trans (HC2.out.1.mono (by omega))).trans (HC3.out.1.mono (by omega))).trans (HC4.out.1.mono (by omega))).trans (C50.1.mono (by omega))⟩
    ·show Value.int .i64 _=Value.int .i64 (endN (l.getD k nd0) (kL l k))
     rw [HQ.out,HD.out]
     go_num
    ·have C5:Ch X (g+1) w4 (w4.setCell ⟨g,k*5+4,none⟩ (.int .i64 (kSS d.names (kN d q) d.names.length))):=ch_set (by omega) (by omega)
     by_cases e:i=k
     ·subst e
      rw [midL_lt (by omega),HQ.out,HD.out]
      refine ⟨ut,un,?_,?_,?_,?_,?_,HET.out.ch C5 (.inl (by omega)),HFN.out.ch C5 (.inl (by omega))⟩
      ·rw [List.getElem?_set_ne (by omega),List.getElem?_set_ne (by omega),List.getElem?_set_self (by omega)];rfl
      ·rw [List.getElem?_set_ne (by omega),List.getElem?_set_self (by rw [List.length_set];omega)];rfl
      ·rw [List.getElem?_set_ne (by omega),List.getElem?_set_ne (by omega),List.getElem?_set_ne (by omega)];exact HY.out.1
      ·rw [List.getElem?_set_ne (by omega),List.getElem?_set_ne (by omega),List.getElem?_set_ne (by omega)];exact HY.out.2
      ·rw [List.getElem?_set_self (by rw [List.length_set,List.length_set];omega)];rfl
     ·have r0:=HR.out i hi
      have hlh:bo (i+1)≤bo k∨bo (k+1)≤bo i:=by
       rcases Nat.lt_or_gt_of_ne e with h|h
       ·exact .inl (HM.out _ _ (by omega))
       ·exact .inr (HM.out _ _ (by omega))
      have hin:=HM.out (i+1) n (by omega)
      have r1:=((((r0.ch HC2.out (.inl (by omega))).ch HC3.out hlh).ch HC4.out hlh).ch C5 (.inl (by omega)))
      have r2:=((r1.set (j:=k*5) (u:=.int .i64 q) (by omega)).set (j:=k*5+1) (u:=.int .i64 (q+1)) (by omega)).set (j:=k*5+4) (u:=.int .i64 (kSS d.names (kN d q) d.names.length)) (by omega)
      by_cases h:i<k
      ·rw [midL_lt h] at r2;rw [midL_lt (by omega)];exact r2
      ·rw [midL_ge h] at r2;rw [midL_ge (by omega)];exact r2
   case measure=>simp [intOf];omega
  ·have hkn:k=n:=by omega
   subst hkn
   go_wp2
   go_ret
   refine ⟨rfl,HBL.out,us,HO.out,fun i hi=>?_⟩
   have:=HR.out i hi
   rw [midL_lt hi] at this
   exact this
theorem heldNodeS_any {w:World} {bo:Nat→Nat} {l:List Nd} {g cap X:Nat} {us:List Value} (hR:Rws w bo us l.length (fun i=>markN (l.getD i nd0) (kL l i))) (ho:w.ownsRow X 61 5 (.slice (some ⟨g,0,none⟩) l.length cap) l.length us) (hs:∀i,i<l.length→Sml (l.getD i nd0)) (hn:l.length≤6000) :
  Calls Tryz.prog 11 #[.slice (some ⟨g,0,none⟩) l.length cap,.int .i64 1] w fun e w'=>e=.returned (.int .i64 (kL l l.length))∧w'=w:=by
 have HKL:Hid (∀i,i≤l.length→1≤kL l i∧kL l i≤1+(300000*i:Nat)):=kL_le hs
 have HS:Hid (∀i,i<l.length→Sml (l.getD i nd0)):=hs
 obtain ⟨n,hnn⟩:∃n,n=l.length:=⟨_,rfl⟩
 have HN:Hid (l.length=n):=hnn.symm
 rw [← hnn] at hn hR ho ⊢
 have HO:Hid (w.ownsRow X 61 5 (.slice (some ⟨g,0,none⟩) n cap) n us):=ho
 have HR:Hid (Rws w bo us n (fun i=>markN (l.getD i nd0) (kL l i))):=hR
 clear hR ho hs hnn
 go_enter Tryz.func11,Tryz.ntmps11
 go_wp2
 go_loop [1,5] (fun q i=>∃(k:Nat),k≤n∧i=.int .i64 k∧q=.int .i64 (kL l k)) (fun _ i=>n-(intOf i).toNat)
 case atStart=>exact ⟨0,Nat.zero_le _,rfl,rfl⟩
 case round =>
  obtain ⟨k,hk,rfl,rfl⟩:=hrel
  by_cases hlt:k<n
  ·obtain ⟨ut,un,y0,y1,y2,y3,y4,ht,hnm⟩:=HR.out k hlt
   have hsm:=HS.out k (by rw [HN.out];exact hlt)
   have hkl:=HKL.out k (by rw [HN.out];omega)
   have hkl2:=HKL.out (k+1) (by rw [HN.out];omega)
   have e0:=(HO.out.cellAt (k*5) (by omega)).trans y0
   have e1:=(HO.out.cellAt (k*5+1) (by omega)).trans y1
   have e2:=(HO.out.cellAt (k*5+2) (by omega)).trans y2
   have e3:=(HO.out.cellAt (k*5+3) (by omega)).trans y3
   have e4:=(HO.out.cellAt (k*5+4) (by omega)).trans y4
   have hb:=endN_le (k:=kL l k) hsm
   have hen:endN (l.getD k nd0) (kL l k)=kSS (l.getD k nd0).names (kN (l.getD k nd0) (kL l k)) (l.getD k nd0).names.length+1:=rfl
   obtain ⟨a1,c1,rfl,hrd⟩:=ht.isS
   obtain ⟨a2,c2,rfl,hrn⟩:=hnm.isS
   have C1:=heldByteS_big a1 c1 (l.getD k nd0).text.length (kL l k+1+1) (by omega) (by omega) w hrd (by have:=hsm.1;omega)
   have C2:=held_names (w:=w) (ao:=a2) (cap:=c2) (l:=(l.getD k nd0).names) (kN (l.getD k nd0) (kL l k)) (by omega) (by omega) (fun i hi=>by
    have hi2:i<(markSS (l.getD k nd0).names (kN (l.getD k nd0) (kL l k))).length:=by rw [markSS_len];exact hi
    obtain ⟨b,off,u,h1,h2,h3⟩:=hrn i hi2
    have h3:RcV w u ((markSS (l.getD k nd0).names (kN (l.getD k nd0) (kL l k))).getD i []):=h3
    rw [markSS_at hi] at h3
    obtain ⟨ao,cc,ee,q1,q2,q3,q4⟩:=h3
    exact ⟨b,off,u,h1,h2,ao,cc,ee,(by show (marks _ _).length≤_;rw [marks_length];have:=hsm.2.2.1 _ (getD_mem (z:=[]) hi);omega),q3,q4⟩) hsm.2.1 (fun i hi=>hsm.2.2.1 _ (getD_mem hi))
   have C2':Hid (Calls Tryz.prog 25 #[.slice a2 (l.getD k nd0).names.length c2,.int .i64 (kN (l.getD k nd0) (kL l k))] w fun e w'=>e=.returned (.int .i64 (kSS (l.getD k nd0).names (kN (l.getD k nd0) (kL l k)) (l.getD k nd0).names.length))∧w'=w):=C2
   have C1':Hid (Calls Tryz.prog 24 #[.slice a1 (l.getD k nd0).text.length c1,.int .i64 (kL l k+1+1)] w fun e w'=>e=.returned (.int .i64 (kN (l.getD k nd0) (kL l k)))∧w'=w):=C1
   have HEN:Hid (kL l (k+1)=kSS (l.getD k nd0).names (kN (l.getD k nd0) (kL l k)) (l.getD k nd0).names.length+1):=rfl
   have z1:(marks (kL l k+1+1) (l.getD k nd0).text.length).length=(l.getD k nd0).text.length:=marks_length _ _
   have z2:(markSS (l.getD k nd0).names (kN (l.getD k nd0) (kL l k))).length=(l.getD k nd0).names.length:=markSS_len _ _
   simp only [markN] at e0 e1 e2 e3 e4
   rw [z1] at e2
   rw [z2] at e3
   have hp1:0≤kN (l.getD k nd0) (kL l k):=by omega
   have hp2:0≤kSS (l.getD k nd0).names (kN (l.getD k nd0) (kL l k)) (l.getD k nd0).names.length:=by omega
   have hp3:kSS (l.getD k nd0).names (kN (l.getD k nd0) (kL l k)) (l.getD k nd0).names.length≤100000000000:=by omega
   have hp4:0≤kL l k∧kL l k≤10000000000:=by omega
   clear C1 C2 ht hnm hrd hrn y0 y1 y2 y3 y4 hsm hkl hkl2 hb hen z1 z2
   generalize (l.getD k nd0).text.length=tl at *
   generalize kSS (l.getD k nd0).names (kN (l.getD k nd0) (kL l k)) (l.getD k nd0).names.length=q2 at *
   generalize kN (l.getD k nd0) (kL l k)=q1 at *
   generalize (l.getD k nd0).names.length=nl at *
   generalize kL l k=q at *
   go_wp2_with (first
    |(go_at_call 24;refine C1'.out.mono ?_;rintro e w3 ⟨rfl,rfl⟩)
    |(go_at_call 25;refine C2'.out.mono ?_;rintro e w4 ⟨rfl,rfl⟩))
   go_round
   case rel=>exact ⟨k+1,by omega,by go_num,by rw [HEN.out]⟩
   case measure=>simp [intOf];omega
  ·have hkn:k=n:=by omega
   subst hkn
   go_wp2
   go_ret
   exact ⟨rfl,rfl⟩
end ip
end Go.Proofs.YtkmiagkehcflnaaGreatDoor
