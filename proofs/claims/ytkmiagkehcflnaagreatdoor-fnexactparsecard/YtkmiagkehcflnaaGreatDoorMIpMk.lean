import Derived.Test.YtkmiagkehcflnaaGreatDoorMTrLc
import Derived.Test.YtkmiagkehcflnaaGreatDoorMTrIsValid
import Derived.Test.YtkmiagkehcflnaaGreatDoorMPsUna
set_option linter.unusedVariables false
set_option linter.unusedSimpArgs false
set_option maxRecDepth 100000
set_option maxHeartbeats 8000000
namespace Go.Proofs.YtkmiagkehcflnaaGreatDoor
namespace ip
open Go.RowKit bts nod lex tk vt
def OwT (w:World) (B M:Nat) (v:Value) (zs:List Int):Prop:=w.ownsRow B 5 1 v zs.length (bcells zs)∧(∀b,v.ownBlock=some b→b<M)∧Bts zs
def OwTT (w:World) (B M:Nat) (v:Value) (l:List (List Int)):Prop :=
 ∃us,w.ownsRow B 22 1 v l.length us∧(∀b,v.ownBlock=some b→b<M)∧(∀i,i<l.length→∃u,us[i]?=some u∧OwT w B M u (l.getD i [])) ∧
  (∀(i j:Nat) (u u':Value) (b:Nat),i<j→us[i]?=some u→us[j]?=some u'→u.ownBlock=some b→u'.ownBlock≠some b)
def Chain (P:Nat→Nat→Value→List Nd→Prop):Nat→Nat→List Value→List (List Nd)→Prop
 |B,E,[],ks=>ks=[]∧B≤E
 |B,E,u::us,ks=>∃M k r,ks=k::r∧B≤M∧P B M u k∧Chain P M E us r
def RpD:Nat→World→Nat→Nat→Value→List Nd→Prop
 |0,_,_,_,_,_=>False
 |D+1,w,B,E,v,l=>∃(d:Nd) (ks:List (List Nd)) (us:List Value) (g:Nat) (ao:Option Addr) (cap:Nat) (ut un:Value) (M:Nat),
   v=.iface (ty d.kind) (.pointer (some ⟨g,0,none⟩))∧(0≤d.kind∧d.kind≤26∧-9223372036854775808≤d.n∧d.n≤9223372036854775807)∧l=tk.node d ks∧(ks.length≤cap∧cap≤9223372036854775807∧ks.length≤1048576∧us.length=ks.length) ∧
   NodeAt w g ⟨d.kind,d.n,d.text,d.names,ks.length⟩ ut un (.slice ao ks.length cap)∧B≤M∧OwT w B M ut d.text∧OwTT w B M un d.names∧d.text.length+sizeSS d.names≤1048576 ∧
   (∀k u,us[k]?=some u→∃b off,ao=some ⟨b,off,none⟩∧w.cell? ⟨b,off+k,none⟩=some u)∧Chain (RpD D w) M E us ks
theorem Chain.turn {P Q:Nat→Nat→Value→List Nd→Prop} (h:∀B E v l,P B E v l→Q B E v l):∀{us:List Value} {B E:Nat} {ks:List (List Nd)},Chain P B E us ks→Chain Q B E us ks
 |[],_,_,_,hc=>hc
 |_::_,_,_,_,⟨M,k,r,e,hB,hp,hc⟩=>⟨M,k,r,e,hB,h _ _ _ _ hp,Chain.turn h hc⟩
theorem Chain.le {P:Nat→Nat→Value→List Nd→Prop}:∀{us:List Value} {B E:Nat} {ks:List (List Nd)},Chain P B E us ks→B≤E
 |[],_,_,_,hc=>hc.2
 |_::_,_,_,_,⟨_,_,_,_,hB,_,hc⟩=>Nat.le_trans hB (Chain.le hc)
theorem Chain.len {P:Nat→Nat→Value→List Nd→Prop}:∀{us:List Value} {B E:Nat} {ks:List (List Nd)},Chain P B E us ks→us.length=ks.length
 |[],_,_,_,hc=>by rw [hc.1];rfl
 |_::_,_,_,_,⟨_,_,_,e,_,_,hc⟩=>by rw [e,List.length_cons,List.length_cons,Chain.len hc]
theorem Chain.wide {P:Nat→Nat→Value→List Nd→Prop} (h:∀B B' E v l,B'≤B→P B E v l→P B' E v l):∀{us:List Value} {B E B' E':Nat} {ks:List (List Nd)},Chain P B E us ks→B'≤B→E≤E'→Chain P B' E' us ks
 |[],_,_,_,_,_,hc,h1,h2=>⟨hc.1,by have:=hc.2;omega⟩
 |_::_,_,_,_,_,_,⟨M,k,r,e,hB,hp,hc⟩,h1,h2=>⟨M,k,r,e,by omega,h _ _ _ _ _ h1 hp,Chain.wide h hc (Nat.le_refl _) h2⟩
theorem Chain.app {P:Nat→Nat→Value→List Nd→Prop} (h:∀B B' E v l,B'≤B→P B E v l→P B' E v l):∀{us vs:List Value} {B M E:Nat} {ks ls:List (List Nd)},Chain P B M us ks→Chain P M E vs ls→Chain P B E (us++vs) (ks++ls)
 |[],_,_,_,_,_,_,hc,hd=>by rw [hc.1];exact hd.wide h hc.2 (Nat.le_refl _)
 |_::_,_,_,_,_,_,_,⟨M,k,r,e,hB,hp,hc⟩,hd=>by subst e;exact ⟨M,k,_,rfl,hB,hp,Chain.app h hc hd⟩
theorem own_base {w:World} {B B' T c n:Nat} {v:Value} {us:List Value} (h:w.ownsRow B T c v n us) (hb:B'≤B):w.ownsRow B' T c v n us:=by
 obtain ⟨h1,h2|⟨g,cap,cur,e,hg,r⟩⟩:=h
 ·exact ⟨h1,.inl h2⟩
 ·exact ⟨h1,.inr ⟨g,cap,cur,e,Nat.le_trans hb hg,r⟩⟩
theorem OwT.wide {w:World} {B M B' M':Nat} {v:Value} {zs:List Int} (h:OwT w B M v zs) (h1:B'≤B) (h2:M≤M'):OwT w B' M' v zs:=⟨own_base h.1 h1,fun b e=>Nat.lt_of_lt_of_le (h.2.1 b e) h2,h.2.2⟩
theorem OwTT.wide {w:World} {B M B' M':Nat} {v:Value} {l:List (List Int)} (h:OwTT w B M v l) (h1:B'≤B) (h2:M≤M'):OwTT w B' M' v l:=by
 obtain ⟨us,a,b,c,d⟩:=h
 refine ⟨us,own_base a h1,fun x e=>Nat.lt_of_lt_of_le (b x e) h2,fun i hi=>?_,d⟩
 obtain ⟨u,e,ho⟩:=c i hi
 exact ⟨u,e,ho.wide h1 h2⟩
theorem rpD_low:∀{D:Nat} {w:World} {B B' E:Nat} {v:Value} {l:List Nd},B'≤B→RpD D w B E v l→RpD D w B' E v l
 |0,_,_,_,_,_,_,_,h=>h
 |D+1,_,_,_,_,_,_,hb,⟨d,ks,us,g,ao,cap,ut,un,M,h1,h2,h3,h4,h5,h6,h7,h8,h9⟩=>⟨d,ks,us,g,ao,cap,ut,un,M,h1,h2,h3,h4,h5,by omega,h7.wide hb (Nat.le_refl _),h8.wide hb (Nat.le_refl _),h9⟩
theorem rpD_wide:∀{D:Nat} {w:World} {B B' E E':Nat} {v:Value} {l:List Nd},B'≤B→E≤E'→RpD D w B E v l→RpD D w B' E' v l
 |0,_,_,_,_,_,_,_,_,_,h=>h
 |D+1,_,_,_,_,_,_,_,hb,he,⟨d,ks,us,g,ao,cap,ut,un,M,h1,h2,h3,h4,h5,h6,h7,h8,h9,h10,h11⟩=>⟨d,ks,us,g,ao,cap,ut,un,M,h1,h2,h3,h4,h5,by omega,h7.wide hb (Nat.le_refl _),h8.wide hb (Nat.le_refl _),h9,h10,Chain.wide (P:=RpD D _) (fun _ _ _ _ _ h=>rpD_low h) h11 (Nat.le_refl _) he⟩
theorem rpD_le:∀{D:Nat} {w:World} {B E:Nat} {v:Value} {l:List Nd},RpD D w B E v l→B≤E
 |0,_,_,_,_,_,h=>h.elim
 |D+1,_,_,_,_,_,⟨d,ks,us,g,ao,cap,ut,un,M,h1,h2,h3,h4,h5,h6,h7,h8,h9,h10,h11⟩=>Nat.le_trans h6 h11.le
def Lk (w w':World):Prop:=(∀(b:Nat) (o:Array Value×TypeId),w.heap[b]?=some (Obj.cells o.1 o.2 (0,0))→w'.heap[b]?=some (Obj.cells o.1 o.2 (0,0)))∧∀a v,w.cell? a=some v→w'.cell? a=some v
theorem own_lk {w w':World} {B T c n:Nat} {v:Value} {us:List Value} (h:w.ownsRow B T c v n us) (hl:Lk w w'):w'.ownsRow B T c v n us:=by
 obtain ⟨h1,h2|⟨g,cap,cur,e,hg,hh,r⟩⟩:=h
 ·exact ⟨h1,.inl h2⟩
 ·exact ⟨h1,.inr ⟨g,cap,cur,e,hg,hl.1 g (cur,T) hh,r⟩⟩
theorem OwT.lk {w w':World} {B M:Nat} {v:Value} {zs:List Int} (h:OwT w B M v zs) (hl:Lk w w'):OwT w' B M v zs:=⟨own_lk h.1 hl,h.2⟩
theorem OwTT.lk {w w':World} {B M:Nat} {v:Value} {l:List (List Int)} (h:OwTT w B M v l) (hl:Lk w w'):OwTT w' B M v l:=by
 obtain ⟨us,a,b,c,d⟩:=h
 refine ⟨us,own_lk a hl,b,fun i hi=>?_,d⟩
 obtain ⟨u,e,ho⟩:=c i hi
 exact ⟨u,e,ho.lk hl⟩
theorem rpD_lk {w w':World} (hl:Lk w w'):∀{D:Nat} {B E:Nat} {v:Value} {l:List Nd},RpD D w B E v l→RpD D w' B E v l
 |0,_,_,_,_,h=>h
 |D+1,_,_,_,_,⟨d,ks,us,g,ao,cap,ut,un,M,h1,h2,h3,h4,⟨c0,c1,c2,c3,c4,c5⟩,h6,h7,h8,h9,h10,h11⟩ =>
  ⟨d,ks,us,g,ao,cap,ut,un,M,h1,h2,h3,h4,⟨hl.2 _ _ c0,hl.2 _ _ c1,hl.2 _ _ c2,hl.2 _ _ c3,hl.2 _ _ c4,hl.2 _ _ c5⟩,h6,h7.lk hl,h8.lk hl,h9,fun k u e=>by
   obtain ⟨b,off,e1,e2⟩:=h10 k u e
   exact ⟨b,off,e1,hl.2 _ _ e2⟩,h11.turn (fun _ _ _ _ h=>rpD_lk hl h)⟩
theorem rpD_up {D:Nat} {w:World} {B E:Nat} {v:Value} {l:List Nd} (h:RpD D w B E v l):RpD (D+1) w B E v l:=by
 induction D generalizing B E v l with
 |zero=>exact h.elim
 |succ D ih =>
  obtain ⟨d,ks,us,g,ao,cap,ut,un,M,h1,h2,h3,h4,h5,h6,h7,h8,h9,h10,h11⟩:=h
  exact ⟨d,ks,us,g,ao,cap,ut,un,M,h1,h2,h3,h4,h5,h6,h7,h8,h9,h10,h11.turn (fun _ _ _ _ h=>ih h)⟩
theorem rpD_mono {D D':Nat} {w:World} {B E:Nat} {v:Value} {l:List Nd} (h:RpD D w B E v l) (hd:D≤D'):RpD D' w B E v l:=by
 induction hd with
 |refl=>exact h
 |step _ ih=>exact rpD_up ih
theorem lk_up {V:Nat→Bool} {w w':World} (h:Up V w w'):Lk (veil V w) (veil V w'):=⟨fun b o e=>by
 rw [veil_get] at e ⊢
 cases hb:w.heap[b]? with
 |none=>rw [hb] at e;cases e
 |some x =>
  rw [hb] at e
  cases hv:V b with
  |true=>rw [hv] at e;simp at e
  |false =>
   have hlt:b<w.heap.size:=heap_lt hb
   rw [h.block b hv hlt,hb]
   rw [hv] at e
   simpa using e,fun a v e=>h.cell e⟩
theorem lk_veils {V V':Nat→Bool} {w:World} (hc:∀x,x<w.heap.size→V x=false→V' x=false):Lk (veil V w) (veil V' w):=⟨fun b o e=>by
 rw [veil_get] at e ⊢
 cases hb:w.heap[b]? with
 |none=>rw [hb] at e;cases e
 |some x =>
  rw [hb] at e
  cases hv:V b with
  |true=>rw [hv] at e;simp at e
  |false =>
   rw [hv] at e
   rw [hc b (heap_lt hb) hv]
   simpa using e,fun a v e=>ps.cell_veils e hc⟩
theorem lk_bare (V:Nat→Bool) (w:World):Lk (veil V w) w:=⟨fun b o e=>by
 rw [veil_get] at e
 cases hb:w.heap[b]? with
 |none=>rw [hb] at e;cases e
 |some x =>
  rw [hb] at e
  cases hv:V b with
  |true=>rw [hv] at e;simp at e
  |false=>rw [hv] at e;simpa using e,fun a v e=>(veil_cell e).1⟩
theorem own_veil {V:Nat→Bool} {w:World} {B T c n:Nat} {v:Value} {us:List Value} (h:w.ownsRow B T c v n us) (hv:∀b,v.ownBlock=some b→V b=false):(veil V w).ownsRow B T c v n us:=by
 obtain ⟨h1,h2|⟨g,cap,cur,e,hg,hh,r⟩⟩:=h
 ·exact ⟨h1,.inl h2⟩
 ·refine ⟨h1,.inr ⟨g,cap,cur,e,hg,?_,r⟩⟩
  rw [veil_get,hh,hv g (by rw [e];rfl)]
  rfl
def Nv (V:Nat→Bool) (w:World) (B E:Nat) (v:Value) (l:List Nd):Prop:=∃D,RpD D (veil V w) B E v l
def Kv (V:Nat→Bool) (w:World) (B E:Nat) (us:List Value) (ks:List (List Nd)):Prop:=Chain (Nv V w) B E us ks
theorem Nv.lk {V V':Nat→Bool} {w w':World} {B E:Nat} {v:Value} {l:List Nd} (h:Nv V w B E v l) (hl:Lk (veil V w) (veil V' w')):Nv V' w' B E v l:=by
 obtain ⟨D,h⟩:=h
 exact ⟨D,rpD_lk hl h⟩
theorem Nv.low {V:Nat→Bool} {w:World} {B B' E:Nat} {v:Value} {l:List Nd} (h:B'≤B) (hn:Nv V w B E v l):Nv V w B' E v l:=by
 obtain ⟨D,hn⟩:=hn
 exact ⟨D,rpD_low h hn⟩
theorem Nv.wide {V:Nat→Bool} {w:World} {B B' E E':Nat} {v:Value} {l:List Nd} (hn:Nv V w B E v l) (h:B'≤B) (h2:E≤E'):Nv V w B' E' v l:=by
 obtain ⟨D,hn⟩:=hn
 exact ⟨D,rpD_wide h h2 hn⟩
theorem Nv.le {V:Nat→Bool} {w:World} {B E:Nat} {v:Value} {l:List Nd} (hn:Nv V w B E v l):B≤E:=by
 obtain ⟨D,hn⟩:=hn
 exact rpD_le hn
theorem Nv.isI {V:Nat→Bool} {w:World} {B E:Nat} {v:Value} {l:List Nd} (hn:Nv V w B E v l):∃T g,v=.iface T (.pointer (some ⟨g,0,none⟩)):=by
 obtain ⟨D,hn⟩:=hn
 cases D with
 |zero=>exact hn.elim
 |succ D =>
  obtain ⟨d,ks,us,g,ao,cap,ut,un,M,h1,_⟩:=hn
  exact ⟨_,g,h1⟩
theorem Kv.lk {V V':Nat→Bool} {w w':World} {B E:Nat} {us:List Value} {ks:List (List Nd)} (h:Kv V w B E us ks) (hl:Lk (veil V w) (veil V' w')):Kv V' w' B E us ks:=Chain.turn (fun _ _ _ _ h=>h.lk hl) h
theorem Kv.wide {V:Nat→Bool} {w:World} {B B' E E':Nat} {us:List Value} {ks:List (List Nd)} (h:Kv V w B E us ks) (h1:B'≤B) (h2:E≤E'):Kv V w B' E' us ks:=Chain.wide (P:=Nv V w) (fun _ _ _ _ _ h hn=>Nv.low h hn) h h1 h2
theorem Kv.app {V:Nat→Bool} {w:World} {B M E:Nat} {us vs:List Value} {ks ls:List (List Nd)} (h:Kv V w B M us ks) (h2:Kv V w M E vs ls):Kv V w B E (us++vs) (ks++ls):=Chain.app (P:=Nv V w) (fun _ _ _ _ _ h hn=>Nv.low h hn) h h2
theorem Nv.kv {V:Nat→Bool} {w:World} {B E:Nat} {v:Value} {l:List Nd} (h:Nv V w B E v l):Kv V w B E [v] [l]:=⟨E,l,[],rfl,h.le,h,rfl,Nat.le_refl _⟩
theorem Kv.one {V:Nat→Bool} {w:World} {B E:Nat} {us:List Value} {ks:List (List Nd)} (h:Kv V w B E us ks):∀u∈us,u.oneCell'=true:=by
 induction us generalizing B ks with
 |nil=>intro u hu;cases hu
 |cons x r ih =>
  obtain ⟨M,k,s,_,_,hp,hc⟩:=h
  intro u hu
  rcases List.mem_cons.1 hu with rfl|hu
  ·obtain ⟨T,g,rfl⟩:=hp.isI;rfl
  ·exact ih hc u hu
theorem Kv.floor {V:Nat→Bool} {w:World} {B E:Nat} {us:List Value} {ks:List (List Nd)} (h:Kv V w B E us ks):∃D,Chain (RpD D (veil V w)) B E us ks:=by
 induction us generalizing B ks with
 |nil=>exact ⟨0,h⟩
 |cons x r ih =>
  obtain ⟨M,k,s,e,hB,⟨D1,hp⟩,hc⟩:=h
  obtain ⟨D2,hc⟩:=ih hc
  exact ⟨max D1 D2,M,k,s,e,hB,rpD_mono hp (Nat.le_max_left _ _),hc.turn (fun _ _ _ _ h=>rpD_mono h (Nat.le_max_right _ _))⟩
theorem OwT.rc {w:World} {B M:Nat} {v:Value} {zs:List Int} (h:OwT w B M v zs):RcV w v zs:=by
 obtain ⟨h1,_,hz⟩:=h
 rcases h1.2 with ⟨e,e2⟩|⟨g,cap,cur,e,_,_,h4,h5,_⟩
 ·have:zs=[]:=List.length_eq_zero_iff.1 e2
  subst this
  exact ⟨none,0,e,Nat.le_refl _,by omega,fun i hi=>absurd hi (by simp),hz⟩
 ·subst e
  unfold maxLen at h5
  exact ⟨some ⟨g,0,none⟩,cap,rfl,h4,by omega,Rd.own h1,hz⟩
theorem OwTT.rc {w:World} {B M:Nat} {v:Value} {l:List (List Int)} (h:OwTT w B M v l):RcVV w v l:=by
 obtain ⟨us,h1,_,h3,_⟩:=h
 rcases h1.2 with ⟨e,e2⟩|⟨g,cap,cur,e,_,_,h4,h5,_⟩
 ·exact ⟨none,0,by rw [e,e2],by omega,by omega,fun i hi=>absurd hi (by omega)⟩
 ·subst e
  unfold maxLen at h5
  refine ⟨some ⟨g,0,none⟩,cap,rfl,h4,by omega,fun i hi=>?_⟩
  obtain ⟨u,hu,ho⟩:=h3 i hi
  have:=h1.cells rfl i u hu
  rw [plainAt] at this
  exact ⟨g,0,u,rfl,this,ho.rc⟩
theorem Chain.mem {P Q:Nat→Nat→Value→List Nd→Prop}:∀{us:List Value} {B E:Nat} {ks:List (List Nd)},(∀k∈ks,∀B E v,P B E v k→Q B E v k)→Chain P B E us ks→Chain Q B E us ks
 |[],_,_,_,_,hc=>hc
 |_::_,_,_,_,h,⟨M,k,r,e,hB,hp,hc⟩=>⟨M,k,r,e,hB,h k (by rw [e];exact List.mem_cons_self) _ _ _ hp,Chain.mem (fun k' hk'=>h k' (by rw [e];exact List.mem_cons_of_mem _ hk')) hc⟩
theorem mem_flat {k:List Nd}:∀{ks:List (List Nd)},k∈ks→k.length≤ks.flatten.length
 |x::r,h=>by
  rw [List.flatten_cons,List.length_append]
  rcases List.mem_cons.1 h with rfl|h
  ·omega
  ·have:=mem_flat h
   omega
theorem rpD_floor {w:World}:∀{D:Nat} {B E:Nat} {v:Value} {l:List Nd},RpD D w B E v l→∀D',l.length≤D'→RpD D' w B E v l:=by
 intro D
 induction D with
 |zero=>intro B E v l h;exact h.elim
 |succ D ih =>
  rintro B E v l ⟨d,ks,us,g,ao,cap,ut,un,M,ev,hk,rfl,hc,hN,hM,hT,hTT,hsz,hcell,hch⟩ D' hD
  have hl:(tk.node d ks).length=ks.flatten.length+1:=by unfold tk.node;rfl
  cases D' with
  |zero=>omega
  |succ D'=>exact ⟨d,ks,us,g,ao,cap,ut,un,M,ev,hk,rfl,hc,hN,hM,hT,hTT,hsz,hcell,Chain.mem (fun k hk' B E v h=>ih h D' (by have:=mem_flat hk';omega)) hch⟩
def rowC (w:World) (v:Value):List Value :=
 match v with
 |.iface _ (.pointer (some a))=>[(w.cell? ⟨a.block,0,none⟩).getD undef,(w.cell? ⟨a.block,1,none⟩).getD undef,(w.cell? ⟨a.block,2,none⟩).getD undef,(w.cell? ⟨a.block,3,none⟩).getD undef,(w.cell? ⟨a.block,4,none⟩).getD undef]
 |_=>[]
def RwC (w:World):Nat→Nat→List Value→List Nd→Prop
 |B,E,us,[]=>us=[]∧B≤E
 |B,E,us,d::l=>∃ut un M r,us=.int .i64 d.kind::.int .i64 d.n::ut::un::.int .i64 d.count::r∧B≤M∧OwT w B M ut d.text∧OwTT w B M un d.names∧RwC w M E r l
theorem RwC.low {w:World}:∀{l:List Nd} {B B' E:Nat} {us:List Value},B'≤B→RwC w B E us l→RwC w B' E us l
 |[],_,_,_,_,hb,h=>⟨h.1,Nat.le_trans hb h.2⟩
 |_::_,_,_,_,_,hb,⟨ut,un,M,r,e,h1,h2,h3,h4⟩=>⟨ut,un,M,r,e,Nat.le_trans hb h1,h2.wide hb (Nat.le_refl _),h3.wide hb (Nat.le_refl _),h4⟩
theorem RwC.app {w:World} {M E:Nat} {us':List Value} {l':List Nd} (h':RwC w M E us' l'):∀{l:List Nd} {B:Nat} {us:List Value},RwC w B M us l→RwC w B E (us++us') (l++l')
 |[],_,_,h=>by
  obtain ⟨rfl,hb⟩:=h
  exact h'.low hb
 |_::_,_,_,⟨ut,un,M1,r,e,h1,h2,h3,h4⟩=>⟨ut,un,M1,r++us',by rw [e];rfl,h1,h2,h3,RwC.app h' h4⟩
theorem RwC.lk {w w':World} (hl:Lk w w'):∀{l:List Nd} {B E:Nat} {us:List Value},RwC w B E us l→RwC w' B E us l
 |[],_,_,_,h=>h
 |_::_,_,_,_,⟨ut,un,M,r,e,h1,h2,h3,h4⟩=>⟨ut,un,M,r,e,h1,h2.lk hl,h3.lk hl,RwC.lk hl h4⟩
def RpT (wv w:World) (D B E:Nat) (v:Value) (l:List Nd) (T:Tr D):Prop :=
 Rep w v T∧wfT T∧sizeT T=l.length∧RwC wv B E ((valsT w v T).flatMap (rowC w)) l∧∀pre post,treeAt (pre++l++post) D pre.length=some (T,pre.length+l.length)
theorem chain_rep {wv w:World} {D:Nat} (ih:∀{B E:Nat} {v:Value} {l:List Nd},RpD D wv B E v l→∃T:Tr D,RpT wv w D B E v l T):∀{us:List Value} {B E:Nat} {ks:List (List Nd)},Chain (RpD D wv) B E us ks →
  ∃Ts:List (Tr D),Ts.length=us.length∧(∀k,k<Ts.length→Rep w (us.getD k (.slice none 0 0)) (Ts.getD k (tr0 D)))∧(∀k,k<Ts.length→wfT (Ts.getD k (tr0 D)))∧(Ts.map sizeT).sum=ks.flatten.length∧RwC wv B E (((List.range Ts.length).map (fun k=>valsT w (us.getD k (.slice none 0 0)) (Ts.getD k (tr0 D)))).flatten.flatMap (rowC w)) ks.flatten∧∀pre post,loopT (treeAt (pre++ks.flatten++post) D) ks.length pre.length=some (Ts,pre.length+ks.flatten.length)
 |[],_,_,_,hc=>by
  obtain ⟨rfl,hbe⟩:=hc
  exact ⟨[],rfl,fun k hk=>absurd hk (by simp),fun k hk=>absurd hk (by simp),rfl,⟨rfl,hbe⟩,fun pre post=>by simp [loopT]⟩
 |u::us,_,_,_,hc=>by
  obtain ⟨M,k,r,rfl,_,hp,hr⟩:=hc
  obtain ⟨T,t1,t2,t3,tr,t4⟩:=ih hp
  obtain ⟨Ts,s1,s2,s3,s4,sr,s5⟩:=chain_rep ih hr
  refine ⟨T::Ts,by simp [s1],fun i hi=>?_,fun i hi=>?_,by simp [t3,s4],?_,fun pre post=>?_⟩
  ·cases i with
   |zero=>exact t1
   |succ i=>exact s2 i (by simpa using hi)
  ·cases i with
   |zero=>exact t2
   |succ i=>exact s3 i (by simpa using hi)
  ·rw [List.length_cons,List.range_succ_eq_map,List.map_cons,List.map_map,List.flatten_cons,List.flatMap_append,List.flatten_cons]
   exact sr.app tr
  ·have a:=t4 pre (r.flatten++post)
   have b:=s5 (pre++k) post
   rw [List.length_append] at b
   have e1:pre++(k::r).flatten++post=pre++k++(r.flatten++post):=by simp
   have e2:pre++(k::r).flatten++post=pre++k++r.flatten++post:=by simp
   rw [← e1] at a
   rw [← e2] at b
   rw [List.length_cons,loopT,a]
   simp only
   rw [b]
   simp only [List.flatten_cons,List.length_append]
   rw [Nat.add_assoc]
theorem rep_of {wv w:World} (hlk:Lk wv w):∀{D:Nat} {B E:Nat} {v:Value} {l:List Nd},RpD D wv B E v l→∃T:Tr D,RpT wv w D B E v l T:=by
 intro D
 induction D with
 |zero=>intro B E v l h;exact h.elim
 |succ D ih =>
  rintro B E v l ⟨d,ks,us,g,ao,cap,ut,un,M,ev,hk,rfl,hc,hN0,hM,hT,hTT,hsz,hcell0,hch⟩
  have hN:NodeAt w g ⟨d.kind,d.n,d.text,d.names,ks.length⟩ ut un (.slice ao ks.length cap):=⟨hlk.2 _ _ hN0.1,hlk.2 _ _ hN0.2.1,hlk.2 _ _ hN0.2.2.1,hlk.2 _ _ hN0.2.2.2.1,hlk.2 _ _ hN0.2.2.2.2.1,hlk.2 _ _ hN0.2.2.2.2.2⟩
  have hcell:∀k u,us[k]?=some u→∃b off,ao=some ⟨b,off,none⟩∧w.cell? ⟨b,off+k,none⟩=some u:=fun k u hu=>by
   obtain ⟨b,off,e,h⟩:=hcell0 k u hu
   exact ⟨b,off,e,hlk.2 _ _ h⟩
  obtain ⟨Ts,s1,s2,s3,s4,sr,s5⟩:=chain_rep ih hch
  have hlen:Ts.length=ks.length:=by omega
  refine ⟨mkT ⟨d.kind,d.n,d.text,d.names,ks.length⟩ Ts,?_,?_,?_,?_,fun pre post=>?_⟩
  ·refine ⟨g,ao,cap,ut,un,fun k=>us.getD k (.slice none 0 0),ev,hk.1,hk.2.1,by show Ts.length≤cap;omega,hc.2.1,by show Ts.length≤_;omega,?_,(hT.lk hlk).rc,(hTT.lk hlk).rc,hsz,fun k hk=>?_,fun k hk=>s2 k hk⟩
   ·show NodeAt w g _ ut un (.slice ao Ts.length cap)
    rw [hlen]
    exact hN
   ·change k<Ts.length at hk
    have hu:us[k]?=some (us.getD k (.slice none 0 0)):=by
     rw [List.getD_eq_getElem?_getD,List.getElem?_eq_getElem (show k<us.length by omega)]
     rfl
    exact hcell k _ hu
  ·exact ⟨hk.2.2,fun k hk=>s3 k hk⟩
  ·show 1+(Ts.map sizeT).sum=_
   rw [s4]
   unfold tk.node
   simp [Nat.add_comm]
  ·have ek:∀k,k<Ts.length→kidV w v k=us.getD k (.slice none 0 0):=fun k hk=>by
    have hu:us[k]?=some (us.getD k (.slice none 0 0)):=by
     rw [List.getD_eq_getElem?_getD,List.getElem?_eq_getElem (show k<us.length by omega)]
     rfl
    obtain ⟨b,off,eo,hcu⟩:=hcell k _ hu
    rw [ev]
    unfold kidV
    simp only [hN.2.2.2.2.2,eo,hcu,Option.getD_some]
   have e1:valsT w v (mkT ⟨d.kind,d.n,d.text,d.names,ks.length⟩ Ts)=v::((List.range Ts.length).map (fun k=>valsT w (us.getD k (.slice none 0 0)) (Ts.getD k (tr0 D)))).flatten:=by
    show v::((List.range Ts.length).map (fun k=>valsT w (kidV w v k) (Ts.getD k (tr0 D)))).flatten=_
    congr 2
    exact List.map_congr_left fun k hk=>by rw [ek k (List.mem_range.1 hk)]
   rw [e1,List.flatMap_cons]
   have e2:rowC w v=[.int .i64 d.kind,.int .i64 d.n,ut,un,.int .i64 (ks.length:Int)]:=by
    rw [ev]
    unfold rowC
    simp only [hN.1,hN.2.1,hN.2.2.1,hN.2.2.2.1,hN.2.2.2.2.1,Option.getD_some]
   rw [e2]
   exact ⟨ut,un,M,_,rfl,hM,hT,hTT,sr⟩
  ·have b:=s5 (pre++[⟨d.kind,d.n,d.text,d.names,ks.length⟩]) post
   have e:pre++tk.node d ks++post=pre++[⟨d.kind,d.n,d.text,d.names,ks.length⟩]++ks.flatten++post:=by unfold tk.node;simp
   rw [e]
   have hx:(pre++[(⟨d.kind,d.n,d.text,d.names,(ks.length:Int)⟩:Nd)]++ks.flatten++post).getD pre.length nd0=⟨d.kind,d.n,d.text,d.names,ks.length⟩:=by simp
   have hkd:knd (pre++[⟨d.kind,d.n,d.text,d.names,(ks.length:Int)⟩]++ks.flatten++post) pre.length=d.kind:=by unfold knd;rw [hx]
   have hct:cnt (pre++[⟨d.kind,d.n,d.text,d.names,(ks.length:Int)⟩]++ks.flatten++post) pre.length=ks.length:=by unfold cnt;rw [hx]
   rw [treeAt,if_pos ⟨by simp,by omega,by omega,by omega⟩,hct,hx]
   rw [List.length_append] at b
   simp only [Int.toNat_natCast]
   rw [show pre.length+1=pre.length + [(⟨d.kind,d.n,d.text,d.names,(ks.length:Int)⟩:Nd)].length from rfl,b]
   unfold tk.node
   simp only [List.length_cons,List.length_nil,Option.some.injEq,Prod.mk.injEq,true_and]
   omega
theorem lk_refl (w:World):Lk w w:=⟨fun _ _ h=>h,fun _ _ h=>h⟩
theorem Nv.tree {V:Nat→Bool} {w:World} {B E:Nat} {v:Value} {l:List Nd} (h:Nv V w B E v l):∃T:Tr (l.length+1),Rep (veil V w) v T∧wfT T∧sizeT T=l.length∧growV l=some T∧isV T=valid l∧RwC (veil V w) B E ((valsT (veil V w) v T).flatMap (rowC (veil V w))) l:=by
 obtain ⟨D,h⟩:=h
 obtain ⟨T,t1,t2,t3,tr,t4⟩:=rep_of (lk_refl (veil V w)) (rpD_floor h (l.length+1) (by omega))
 have e:=t4 [] []
 simp only [List.nil_append,List.append_nil,List.length_nil,Nat.zero_add] at e
 have hg:growV l=some T:=by
  unfold growV
  rw [e]
  simp
 refine ⟨T,t1,t2,t3,hg,?_,tr⟩
 rw [valid_eq]
 unfold isV validI isValidT
 rw [hg,t3]
theorem lc_bare (V:Nat→Bool) (w:World):Lc (veil V w) w:=(lk_bare V w).2
def Kq (lo hi:Nat) (W W':World):Prop:=Below lo W W'∧∀(k:Nat) (cs:Array Value) (fr:Nat×Nat),hi≤k→W.heap[k]?=some (.cells cs 58 fr)→W'.heap[k]?=some (.cells cs 58 fr)
theorem kr_parse {W0:World} {lo hi:Nat} (hlh:lo≤hi):Kr W0 hi (fun A B=>(Lc W0 A→Lc W0 B)∧Kq lo hi A B) :=
 ⟨fun _=>⟨id,Below.refl _ _,fun _ _ _ _ h=>h⟩,fun h k=>⟨fun x=>k.1 (h.1 x),h.2.1.trans k.2.1,fun b cs fr hb x=>k.2.2 b cs fr hb (h.2.2 b cs fr hb x)⟩,fun hl h=>⟨fun x=>x.trans (Lc.of h),h.mono (by omega),fun b _ _ _ x=>(h.block b (Array.getElem?_eq_some_iff.1 x).1).trans x⟩,fun h hg hc=>h.2.2 _ _ _ hg hc,fun h=>h.2.1.size,fun h=>h.1⟩
theorem markByteS_big (v:Value) (n base:Nat) (xs:List Value) (k0:Int) (h0:0≤k0) (h1:k0≤4611686018427387904) (w:World) (hown:w.ownsRow base 5 1 v n xs) (hn:n≤140737488355328) :
  Calls Tryz.prog 9 #[v,.int .i64 k0] w fun e w'=>e=.returned (.int .i64 (k0+(n:Int))) ∧
   w'.ownsRow base 5 1 v n (bcells (marks k0 n))∧w.grownBy w' v.ownBlock:=by
 rcases hown.2 with ⟨rfl,rfl⟩|⟨g,cap,cur,rfl,hbg,hh,hnc,hcm,hcs,htk⟩
 ·go_enter Tryz.func9,Tryz.ntmps9
  go_wp2
  refine wp_loop_rounds 1 ?_
  rw [rounds_succ]
  go_wp2
  go_ret
  exact ⟨by simp,⟨by simp [bcells,marks],.inl ⟨rfl,rfl⟩⟩,World.grownBy.refl _ _⟩
 ·clear hh htk hcs
  go_enter Tryz.func9,Tryz.ntmps9
  go_wp2
  go_loopw [1,5] (fun q i wr=>∃(k:Nat) (xs:List Value),k≤n∧i=.int .i64 k∧q=.int .i64 (k0+(k:Int))∧wr.ownsRow base 5 1 (.slice (some ⟨g,0,none⟩) n cap) n xs∧(∀j,j<k→xs[j]?=some (.int .u8 ((k0+(j:Int)) % 256)))∧w.grownBy wr (some g)) (fun _ i _=>n-(intOf i).toNat)
  case atStart=>exact ⟨0,_,Nat.zero_le _,rfl,by go_num,hown,fun j hj=>absurd hj (by omega),World.grownBy.refl _ _⟩
  case round =>
   clear hown
   obtain ⟨k,xs,hk,rfl,rfl,hown,hxs,hb⟩:=hrel
   by_cases hlt:k<n
   ·have hfr:=hown.frozenAt k
    have hct:=hown.cellAt k (by omega)
    have hxl:xs.length=n:=by have:=hown.1;omega
    obtain ⟨u,hu⟩:∃u,xs[k]?=some u:=⟨_,List.getElem?_eq_getElem (by omega)⟩
    rw [hu] at hct
    clear hu
    have HO:Hid (wr.ownsRow base 5 1 (.slice (some ⟨g,0,none⟩) n cap) n xs):=hown
    have HX:Hid (∀j,j<k→xs[j]?=some (.int .u8 ((k0+(j:Int)) % 256))):=hxs
    have HL:Hid (xs.length=n):=hxl
    clear hxs hown hxl
    go_wp2
    go_roundw
    case rel =>
     refine ⟨k+1,xs.set k (.int .u8 ((k0+(k:Int)) % 256)),by omega,by go_num,by go_num,(HO.out.stored k _).1,?_,grown_step hb (HO.out.stored k _).2⟩
     intro j hj
     have hl:=HL.out
     by_cases e:j=k
     ·subst e;rw [List.getElem?_set_self (by omega)]
     ·rw [List.getElem?_set_ne (by omega),HX.out j (by omega)]
    case measure=>simp [intOf];omega
   ·have hkn:k=n:=by omega
    subst hkn
    have HO:Hid _:=hown
    have HX:Hid _:=hxs
    clear hown hxs
    go_wp2
    go_ret
    have e:=bcells_of (xs:=xs) (zs:=marks k0 k) (by have:=HO.out.1;rw [marks_length];omega) (by
     intro j hj
     rw [marks_length] at hj
     rw [marks_getD _ _ _ hj]
     exact HX.out j hj)
    rw [e] at HO
    exact ⟨rfl,HO.out,hb⟩
theorem heldByteS_big (ao:Option Addr) (cap n:Nat) (k0:Int) (h0:0≤k0) (h1:k0≤4611686018427387904) (w:World) (hr:Rd w ao (marks k0 n)) (hn:n≤140737488355328) :
  Calls Tryz.prog 24 #[.slice ao n cap,.int .i64 k0] w fun e w'=>e=.returned (.int .i64 (k0+(n:Int)))∧w'=w:=by
 go_enter Tryz.func24,Tryz.ntmps24
 go_wp2
 go_loop [1,5] (fun q i=>∃(k:Nat),k≤n∧i=.int .i64 k∧q=.int .i64 (k0+(k:Int))) (fun _ i=>n-(intOf i).toNat)
 case atStart=>exact ⟨0,Nat.zero_le _,rfl,by go_num⟩
 case round =>
  obtain ⟨k,hk,rfl,rfl⟩:=hrel
  by_cases hlt:k<n
  ·obtain ⟨b,off,rfl,hbw,hcell⟩:=hr.at (by rw [marks_length];omega)
   have hc:=hcell k (by rw [marks_length];omega)
   rw [marks_getD _ _ _ hlt] at hc
   clear hcell hr
   go_wp2
   go_round
   case rel=>exact ⟨k+1,by omega,by go_num,by go_num⟩
   case measure=>simp [intOf];omega
  ·have hkn:k=n:=by omega
   subst hkn
   go_wp2
   go_ret
   exact ⟨rfl,rfl⟩
theorem markByteS_nil (a:Option Addr) (cap:Nat) (k0:Int) (w:World):Calls Tryz.prog 9 #[.slice a 0 cap,.int .i64 k0] w fun e w'=>e=.returned (.int .i64 k0)∧w'=w:=by
 go_enter Tryz.func9,Tryz.ntmps9
 go_wp2
 refine wp_loop_rounds 1 ?_
 rw [rounds_succ]
 go_wp2
 go_ret
 exact ⟨rfl,rfl⟩
theorem markByteSS_nil (a:Option Addr) (cap:Nat) (k0:Int) (w:World):Calls Tryz.prog 23 #[.slice a 0 cap,.int .i64 k0] w fun e w'=>e=.returned (.int .i64 k0)∧w'=w:=by
 go_enter Tryz.func23,Tryz.ntmps23
 go_wp2
 refine wp_loop_rounds 1 ?_
 rw [rounds_succ]
 go_wp2
 go_ret
 exact ⟨rfl,rfl⟩
open ps (own_far)
def kSS (l:List (List Int)) (k:Int):Nat→Int
 |0=>k
 |i+1=>kSS l k i+((l.getD i []).length:Int)
theorem kSS_le {l:List (List Int)} {k:Int} {m:Nat} (h:∀i,i<l.length→(l.getD i []).length≤m):∀i,i≤l.length→k≤kSS l k i∧kSS l k i≤k+(m*i:Nat)
 |0,_=>by simp [kSS]
 |i+1,hi=>by
  have h1:=kSS_le (k:=k) h i (by omega)
  have h2:=h i (by omega)
  have h3:m*(i+1)=m*i+m:=by rw [Nat.mul_succ]
  simp only [kSS]
  omega
def markSS (l:List (List Int)) (k:Int):List (List Int):=(List.range l.length).map fun i=>marks (kSS l k i) (l.getD i []).length
theorem markSS_len (l:List (List Int)) (k:Int):(markSS l k).length=l.length:=by simp [markSS]
theorem markSS_at {l:List (List Int)} {k:Int} {i:Nat} (h:i<l.length):(markSS l k).getD i []=marks (kSS l k i) (l.getD i []).length:=by simp [markSS,List.getD_eq_getElem?_getD,h]
def Ch (B M:Nat) (w w':World):Prop:=Below B w w'∧∀b,b<w.heap.size→M≤b→w'.heap[b]?=w.heap[b]?
theorem Ch.refl (B M:Nat) (w:World):Ch B M w w:=⟨Below.refl _ _,fun _ _ _=>rfl⟩
theorem Ch.trans {B M:Nat} {a b c:World} (h:Ch B M a b) (k:Ch B M b c):Ch B M a c:=⟨h.1.trans k.1,fun x hx hm=>(k.2 x (Nat.lt_of_lt_of_le hx h.1.size) hm).trans (h.2 x hx hm)⟩
theorem Ch.wide {B M B' M':Nat} {w w':World} (h:Ch B M w w') (h1:B'≤B) (h2:M≤M'):Ch B' M' w w':=⟨h.1.mono h1,fun b hb hm=>h.2 b hb (by omega)⟩
theorem ch_grown {B M:Nat} {w w':World} {row:Option Nat} (h:w.grownBy w' row) (hB:B≤w.heap.size) (hr:∀b,row=some b→B≤b∧b<M):Ch B M w w' :=
 ⟨(Below.refl B w).grown h hB (fun k e=>(hr k e).1),fun b hb hm=>h.block b hb (fun e=>by have:=hr b e.symm;omega)⟩
theorem OwT.ch {w w':World} {B M lo hi:Nat} {v:Value} {zs:List Int} (h:OwT w lo hi v zs) (hc:Ch B M w w') (ha:hi≤B∨M≤lo):OwT w' lo hi v zs:=by
 refine ⟨own_far h.1 (fun b e=>?_),h.2⟩
 have h1:=h.1.lt b e
 have h2:=h.2.1 b e
 rcases ha with ha|ha
 ·exact hc.1.block b (by omega)
 ·exact hc.2 b h1.2 (by omega)
theorem OwTT.ch {w w':World} {B M lo hi:Nat} {v:Value} {l:List (List Int)} (h:OwTT w lo hi v l) (hc:Ch B M w w') (ha:hi≤B∨M≤lo):OwTT w' lo hi v l:=by
 obtain ⟨us,h1,h2,h3,h4⟩:=h
 refine ⟨us,own_far h1 (fun b e=>?_),h2,fun i hi=>?_,h4⟩
 ·have a1:=h1.lt b e
  have a2:=h2 b e
  rcases ha with ha|ha
  ·exact hc.1.block b (by omega)
  ·exact hc.2 b a1.2 (by omega)
 ·obtain ⟨u,e,ho⟩:=h3 i hi
  exact ⟨u,e,ho.ch hc ha⟩
theorem own_ne {w:World} {B B' n n' c c':Nat} {T T':TypeId} {v v':Value} {us us':List Value} {b:Nat} (h:w.ownsRow B T c v n us) (h':w.ownsRow B' T' c' v' n' us') (hT:T≠T') (e:v.ownBlock=some b):v'.ownBlock≠some b:=by
 intro e'
 rcases h.2 with ⟨rfl,_⟩|⟨g,cap,cur,rfl,_,hh,_⟩
 ·cases e
 ·rcases h'.2 with ⟨rfl,_⟩|⟨g',cap',cur',rfl,_,hh',_⟩
  ·cases e'
  ·cases e
   cases e'
   rw [hh] at hh'
   simp only [Option.some.injEq,Obj.cells.injEq] at hh'
   exact hT hh'.2.1
theorem bts_marks (k:Int) (n:Nat):Bts (marks k n):=by
 intro i
 by_cases h:i<n
 ·rw [marks_getD _ _ _ h];omega
 ·rw [List.getD_eq_getElem?_getD,List.getElem?_eq_none (by rw [marks_length];omega)]
  simp
theorem mark_text {w:World} {lo hi:Nat} {v:Value} {zs:List Int} (h:OwT w lo hi v zs) (hlo:lo≤w.heap.size) (k0:Int) (h0:0≤k0) (h1:k0≤4611686018427387904) (hn:zs.length≤140737488355328) :
  Calls Tryz.prog 9 #[v,.int .i64 k0] w fun e w'=>e=.returned (.int .i64 (k0+(zs.length:Int)))∧OwT w' lo hi v (marks k0 zs.length)∧w.grownBy w' v.ownBlock∧Ch lo hi w w' :=
 (markByteS_big v zs.length lo _ k0 h0 h1 w h.1 hn).mono (by
  rintro e w' ⟨rfl,h2,h3⟩
  exact ⟨rfl,⟨by rw [marks_length];exact h2,h.2.1,bts_marks _ _⟩,h3,ch_grown h3 hlo (fun b e=>⟨(h.1.lt b e).1,h.2.1 b e⟩)⟩)
def midSS (l:List (List Int)) (k:Int) (i:Nat):List (List Int):=(List.range l.length).map fun j=>if j<i then marks (kSS l k j) (l.getD j []).length else l.getD j []
theorem midSS_len (l:List (List Int)) (k:Int) (i:Nat):(midSS l k i).length=l.length:=by simp [midSS]
theorem midSS_at {l:List (List Int)} {k:Int} {i j:Nat} (h:j<l.length):(midSS l k i).getD j []=if j<i then marks (kSS l k j) (l.getD j []).length else l.getD j []:=by simp [midSS,List.getD_eq_getElem?_getD,h]
theorem midSS_zero (l:List (List Int)) (k:Int):midSS l k 0=l:=by
 refine List.ext_getElem (by rw [midSS_len]) fun j h1 h2=>?_
 have:=midSS_at (l:=l) (k:=k) (i:=0) h2
 rw [if_neg (by omega),List.getD_eq_getElem?_getD,List.getD_eq_getElem?_getD,List.getElem?_eq_getElem h1,List.getElem?_eq_getElem h2] at this
 exact this
theorem midSS_full (l:List (List Int)) (k:Int):midSS l k l.length=markSS l k:=by
 unfold midSS markSS
 exact List.map_congr_left fun j hj=>by rw [if_pos (List.mem_range.1 hj)]
theorem mark_names {w:World} {lo hi:Nat} {v:Value} {l:List (List Int)} (h:OwTT w lo hi v l) (hlo:lo≤w.heap.size) (k0:Int) (h0:0≤k0) (h1:k0≤1000000000000) (hl:l.length≤50) (hs:∀i,i<l.length→(l.getD i []).length≤5000) :
  Calls Tryz.prog 23 #[v,.int .i64 k0] w fun e w'=>e=.returned (.int .i64 (kSS l k0 l.length))∧OwTT w' lo hi v (markSS l k0)∧Ch lo hi w w':=by
 obtain ⟨us,o1,o2,o3,o4⟩:=h
 rcases o1.2 with ⟨rfl,e0⟩|⟨g,cap,cur,rfl,_⟩
 ·rw [e0]
  refine (markByteSS_nil none 0 k0 w).mono ?_
  rintro e w' ⟨rfl,rfl⟩
  have:l=[]:=List.length_eq_zero_iff.1 e0
  subst this
  exact ⟨rfl,⟨us,o1,o2,o3,o4⟩,.refl _ _ _⟩
 ·have HO:Hid (OwTT w lo hi (.slice (some ⟨g,0,none⟩) l.length cap) l):=⟨us,o1,o2,o3,o4⟩
  have HU:Hid (us.length=l.length):=by have:=o1.1;show _=_;omega
  have HK:=kSS_le (k:=k0) hs
  have HK2:Hid (∀i,i≤l.length→k0≤kSS l k0 i∧kSS l k0 i≤k0+(5000*i:Nat)):=HK
  have HS:Hid (∀i,i<l.length→(l.getD i []).length≤5000):=hs
  have HF:Hid (∀W:World,w.heap.size≤W.heap.size→lo≤W.heap.size):=fun W h=>by omega
  have HP:Hid (∀(i j:Nat) (u u':Value) (b:Nat),i<j→us[i]?=some u→us[j]?=some u'→u.ownBlock=some b→u'.ownBlock≠some b):=o4
  have HZ:Hid (∀b,(Value.slice (some ⟨g,0,none⟩) l.length cap).ownBlock=some b→b<hi):=o2
  obtain ⟨n,hn⟩:∃n,n=l.length:=⟨_,rfl⟩
  have HN:Hid (l.length=n):=hn.symm
  have start:Hid (w.ownsRow lo 22 1 (.slice (some ⟨g,0,none⟩) n cap) n us∧∀i,i<n→∃u,us[i]?=some u∧OwT w lo hi u ((midSS l k0 0).getD i [])):=⟨by rw [hn];exact o1,by rw [midSS_zero,hn];exact o3⟩
  rw [← hn] at hl ⊢
  clear o1 o2 o3 o4 HK hs HO hn
  go_enter Tryz.func23,Tryz.ntmps23
  go_wp2
  go_loopw [1,5] (fun q i wr=>∃(k:Nat),k≤n∧i=.int .i64 k∧q=.int .i64 (kSS l k0 k)∧Hid (wr.ownsRow lo 22 1 (.slice (some ⟨g,0,none⟩) n cap) n us∧∀i,i<n→∃u,us[i]?=some u∧OwT wr lo hi u ((midSS l k0 k).getD i []))∧Hid (Ch lo hi w wr)) (fun _ i _=>n-(intOf i).toNat)
  case atStart=>exact ⟨0,Nat.zero_le _,rfl,rfl,start,.refl _ _ _⟩
  case round =>
   clear start
   obtain ⟨k,hk,rfl,rfl,HR,HC⟩:=hrel
   by_cases hlt:k<n
   ·obtain ⟨u,hu,ho⟩:=HR.out.2 k hlt
    rw [midSS_at (by rw [HN.out];exact hlt),if_neg (by omega)] at ho
    have hc:wr.cell? ⟨g,k,none⟩=some u:=(HR.out.1.cellAt k (by omega)).trans hu
    have HB:=HK2.out k (by rw [HN.out];omega)
    have hs:=HS.out k (by rw [HN.out];exact hlt)
    have C:=mark_text ho (HF.out _ HC.out.1.size) (kSS l k0 k) (by omega) (by omega) (by omega)
    have HU1:Hid (us[k]?=some u):=hu
    have HO1:Hid (OwT wr lo hi u (l.getD k [])):=ho
    have HCC:Hid (Calls Tryz.prog 9 #[u,.int .i64 (kSS l k0 k)] wr fun e w'=>e=.returned (.int .i64 (kSS l k0 (k+1)))∧OwT w' lo hi u (marks (kSS l k0 k) (l.getD k []).length)∧wr.grownBy w' u.ownBlock∧Ch lo hi wr w'):=C
    clear C ho hu HB hs
    obtain ⟨q,hq⟩:∃q,q=kSS l k0 k:=⟨_,rfl⟩
    obtain ⟨q',hq'⟩:∃q',q'=kSS l k0 (k+1):=⟨_,rfl⟩
    have HQ:Hid (q=kSS l k0 k):=hq
    have HQ':Hid (q'=kSS l k0 (k+1)):=hq'
    rw [← hq,← hq'] at HCC
    rw [← hq]
    clear hq hq'
    go_wp2_with (go_at_call 9;refine HCC.out.mono ?_;rintro e w1 ⟨rfl,h2,h3,h4⟩;have H2:Hid _:=h2;have H3:Hid _:=h3;have H4:Hid _:=h4;clear h2 h3 h4)
    go_roundw
    case rel =>
     refine ⟨k+1,by omega,by go_num,by rw [HQ'.out],⟨own_far HR.out.1 (fun b e=>H3.out.block b (HR.out.1.lt b e).2 (fun e2=>own_ne HR.out.1 HO1.out.1 (by decide) e e2.symm)),fun i hj=>?_⟩,HC.out.trans H4.out⟩
     obtain ⟨u',hu',ho'⟩:=HR.out.2 i hj
     have hi2:i<l.length:=by rw [HN.out];exact hj
     rw [midSS_at hi2] at ho' ⊢
     refine ⟨u',hu',?_⟩
     by_cases e:i=k
     ·subst e
      have:=HU1.out
      rw [hu'] at this
      cases this
      rw [if_pos (by omega),← HQ.out]
      exact H2.out
     ·have hap:∀b,u'.ownBlock=some b→u.ownBlock≠some b:=fun b hb hb2=>by
       rcases Nat.lt_or_gt_of_ne e with h|h
       ·exact HP.out i k u' u b h hu' HU1.out hb hb2
       ·exact HP.out k i u u' b h HU1.out hu' hb2 hb
      have ho2:OwT w1 lo hi u' _:=⟨own_far ho'.1 (fun b hb=>H3.out.block b (ho'.1.lt b hb).2 (fun e2=>hap b hb e2.symm)),ho'.2⟩
      by_cases h:i<k
      ·rw [if_pos h] at ho2;rw [if_pos (by omega)];exact ho2
      ·rw [if_neg h] at ho2;rw [if_neg (by omega)];exact ho2
    case measure=>simp [intOf];omega
   ·have hkn:k=n:=by omega
    subst hkn
    go_wp2
    go_ret
    refine ⟨rfl,⟨us,?_,?_,?_,HP.out⟩,HC.out⟩
    ·rw [markSS_len,HN.out]
     exact HR.out.1
    ·have:=HZ.out
     rw [HN.out] at this
     exact this
    ·intro i hi
     rw [markSS_len] at hi
     have:=HR.out.2 i (by rw [← HN.out];exact hi)
     rw [← HN.out,midSS_full] at this
     exact this
theorem held_names {w:World} {ao:Option Addr} {l:List (List Int)} {cap:Nat} (k0:Int) (h0:0≤k0) (h1:k0≤1000000000000) (h:∀i,i<l.length→∃b off u,ao=some ⟨b,off,none⟩∧w.cell? ⟨b,off+i,none⟩=some u∧RdV w u (marks (kSS l k0 i) (l.getD i []).length)) (hl:l.length≤50) (hs:∀i,i<l.length→(l.getD i []).length≤5000) :
  Calls Tryz.prog 25 #[.slice ao l.length cap,.int .i64 k0] w fun e w'=>e=.returned (.int .i64 (kSS l k0 l.length))∧w'=w:=by
 have HK2:Hid (∀i,i≤l.length→k0≤kSS l k0 i∧kSS l k0 i≤k0+(5000*i:Nat)):=kSS_le (k:=k0) hs
 have HS:Hid (∀i,i<l.length→(l.getD i []).length≤5000):=hs
 have HR:Hid (∀i,i<l.length→∃b off u,ao=some ⟨b,off,none⟩∧w.cell? ⟨b,off+i,none⟩=some u∧RdV w u (marks (kSS l k0 i) (l.getD i []).length)):=h
 obtain ⟨n,hn⟩:∃n,n=l.length:=⟨_,rfl⟩
 have HN:Hid (l.length=n):=hn.symm
 rw [← hn] at hl ⊢
 clear hs h hn
 go_enter Tryz.func25,Tryz.ntmps25
 go_wp2
 go_loop [1,5] (fun q i=>∃(k:Nat),k≤n∧i=.int .i64 k∧q=.int .i64 (kSS l k0 k)) (fun _ i=>n-(intOf i).toNat)
 case atStart=>exact ⟨0,Nat.zero_le _,rfl,rfl⟩
 case round =>
  obtain ⟨k,hk,rfl,rfl⟩:=hrel
  by_cases hlt:k<n
  ·obtain ⟨b,off,u,rfl,hc,a1,c1,rfl,_,hrd,_⟩:=HR.out k (by rw [HN.out];exact hlt)
   have HB:=HK2.out k (by rw [HN.out];omega)
   have HB2:=HK2.out (k+1) (by rw [HN.out];omega)
   have hs:=HS.out k (by rw [HN.out];exact hlt)
   have C:=heldByteS_big a1 c1 (l.getD k []).length (kSS l k0 k) (by omega) (by omega) w hrd (by omega)
   have HCC:Hid (Calls Tryz.prog 24 #[.slice a1 (l.getD k []).length c1,.int .i64 (kSS l k0 k)] w fun e w'=>e=.returned (.int .i64 (kSS l k0 (k+1)))∧w'=w):=C
   rw [marks_length] at hc
   have hq0:0≤kSS l k0 (k+1):=by omega
   clear C hs HB HB2 hrd
   generalize (l.getD k []).length=m at *
   obtain ⟨q,hq⟩:∃q,q=kSS l k0 k:=⟨_,rfl⟩
   obtain ⟨q',hq'⟩:∃q',q'=kSS l k0 (k+1):=⟨_,rfl⟩
   have HQ':Hid (q'=kSS l k0 (k+1)):=hq'
   rw [← hq,← hq'] at HCC
   rw [← hq'] at hq0
   rw [← hq]
   clear hq hq'
   go_wp2_with (go_at_call 24;refine HCC.out.mono ?_;rintro e w1 ⟨rfl,rfl⟩)
   go_round
   case rel=>exact ⟨k+1,by omega,by go_num,by rw [HQ'.out]⟩
   case measure=>simp [intOf];omega
  ·have hkn:k=n:=by omega
   subst hkn
   go_wp2
   go_ret
   exact ⟨rfl,rfl⟩
end ip
end Go.Proofs.YtkmiagkehcflnaaGreatDoor
