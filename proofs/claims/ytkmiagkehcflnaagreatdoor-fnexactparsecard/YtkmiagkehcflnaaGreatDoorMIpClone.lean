import Derived.Lib.ConvBytes
import Derived.Deep.AppendLies
import Derived.Laws.AppendOwnNone
import Derived.Handy
import Derived.Lib.SliceRun
import Derived.Test.YtkmiagkehcflnaaGreatDoorMIpTab
import Derived.Test.YtkmiagkehcflnaaGreatDoorMVtEnd
set_option maxRecDepth 100000
set_option maxHeartbeats 8000000
namespace Go.Proofs.YtkmiagkehcflnaaGreatDoor
namespace tk
open Go.RowKit bts nod
def veil (B:Nat→Bool) (w:World):World:={w with heap:=w.heap.mapIdx fun i o=>if B i then .deferred none else o}
def lt (n:Nat):Nat→Bool:=fun b=>decide (b<n)
theorem lt_ge {n b:Nat} (h:n≤b):lt n b=false:=by simp [lt];omega
theorem veil_size (B:Nat→Bool) (w:World):(veil B w).heap.size=w.heap.size:=by simp [veil]
theorem veil_get (B:Nat→Bool) (w:World) (b:Nat):(veil B w).heap[b]?=(w.heap[b]?).map fun o=>if B b then .deferred none else o:=by simp [veil]
theorem veil_cell {B:Nat→Bool} {w:World} {a:Addr} {v:Value} (h:(veil B w).cell? a=some v):w.cell? a=some v∧B a.block=false:=by
 unfold World.cell? at h ⊢
 rw [veil_get] at h
 cases hb:w.heap[a.block]? with
 |none=>rw [hb] at h;simp at h
 |some o =>
  rw [hb] at h
  cases hlt:B a.block with
  |true=>simp [hlt] at h
  |false=>simp only [Option.map_some,hlt,Bool.false_eq_true,if_false] at h;exact ⟨h,rfl⟩
theorem cell_veil {B:Nat→Bool} {w:World} {a:Addr} {v:Value} (h:w.cell? a=some v) (hb:B a.block=false):(veil B w).cell? a=some v:=by
 unfold World.cell? at h ⊢
 rw [veil_get]
 cases ho:w.heap[a.block]? with
 |none=>rw [ho] at h;simp at h
 |some o =>
  rw [ho] at h
  simp only [Option.map_some,hb,Bool.false_eq_true,if_false]
  exact h
structure Up (B:Nat→Bool) (w w':World):Prop where
 size:w.heap.size≤w'.heap.size
 block:∀b,B b=false→b<w.heap.size→w'.heap[b]?=w.heap[b]?
theorem Up.refl (B:Nat→Bool) (w:World):Up B w w:=⟨Nat.le_refl _,fun _ _ _=>rfl⟩
theorem Up.trans {B:Nat→Bool} {a b c:World} (h:Up B a b) (k:Up B b c):Up B a c:=⟨Nat.le_trans h.size k.size,fun x hx hl=>(k.block x hx (Nat.lt_of_lt_of_le hl h.size)).trans (h.block x hx hl)⟩
theorem Up.mono {B C:Nat→Bool} {a b:World} (h:Up B a b) (hc:∀x,C x=false→B x=false):Up C a b:=⟨h.size,fun x hx hl=>h.block x (hc x hx) hl⟩
theorem Up.cell {B:Nat→Bool} {w w':World} (h:Up B w w') {a:Addr} {v:Value} (hc:(veil B w).cell? a=some v):(veil B w').cell? a=some v:=by
 obtain ⟨h1,h2⟩:=veil_cell hc
 refine cell_veil ?_ h2
 unfold World.cell? at h1 ⊢
 rw [h.block a.block h2 (by have:=World.block_lt_of_cell? w a (by unfold World.cell?;exact h1);exact this)]
 exact h1
theorem Rd.up {B:Nat→Bool} {w w':World} {ao:Option Addr} {zs:List Int} (h:Rd (veil B w) ao zs) (hu:Up B w w'):Rd (veil B w') ao zs:=by
 intro i hi
 obtain ⟨b,off,e,hc⟩:=h i hi
 exact ⟨b,off,e,hu.cell hc⟩
theorem RdV.up {B:Nat→Bool} {w w':World} {v:Value} {zs:List Int} (h:RdV (veil B w) v zs) (hu:Up B w w'):RdV (veil B w') v zs:=by
 obtain ⟨ao,cap,e,hm,hr,hz⟩:=h
 exact ⟨ao,cap,e,hm,Rd.up hr hu,hz⟩
theorem RdVV.up {B:Nat→Bool} {w w':World} {v:Value} {l:List (List Int)} (h:RdVV (veil B w) v l) (hu:Up B w w'):RdVV (veil B w') v l:=by
 obtain ⟨ao,cap,e,hm,h⟩:=h
 refine ⟨ao,cap,e,hm,fun i hi=>?_⟩
 obtain ⟨b,off,u,e,hc,hr⟩:=h i hi
 exact ⟨b,off,u,e,hu.cell hc,RdV.up hr hu⟩
theorem RdN.up {B:Nat→Bool} {w w':World} {ao:Option Addr} {l:List Nd} (h:RdN (veil B w) ao l) (hu:Up B w w'):RdN (veil B w') ao l:=by
 intro i hi
 obtain ⟨b,off,ut,un,e,c0,c1,c2,c3,c4,ht,hn⟩:=h i hi
 exact ⟨b,off,ut,un,e,hu.cell c0,hu.cell c1,hu.cell c2,hu.cell c3,hu.cell c4,RdV.up ht hu,RdVV.up hn hu⟩
theorem cell_less {B C:Nat→Bool} {w:World} {a:Addr} {v:Value} (h:(veil B w).cell? a=some v) (hc:∀x,B x=false→C x=false):(veil C w).cell? a=some v:=by
 obtain ⟨h1,h2⟩:=veil_cell h
 exact cell_veil h1 (hc _ h2)
theorem RdV.less {B C:Nat→Bool} {w:World} {v:Value} {zs:List Int} (h:RdV (veil B w) v zs) (hc:∀x,B x=false→C x=false):RdV (veil C w) v zs:=by
 obtain ⟨ao,cap,e,hm,hr,hz⟩:=h
 refine ⟨ao,cap,e,hm,fun i hi=>?_,hz⟩
 obtain ⟨b,off,e,h⟩:=hr i hi
 exact ⟨b,off,e,cell_less h hc⟩
theorem RdVV.less {B C:Nat→Bool} {w:World} {v:Value} {l:List (List Int)} (h:RdVV (veil B w) v l) (hc:∀x,B x=false→C x=false):RdVV (veil C w) v l:=by
 obtain ⟨ao,cap,e,hm,h⟩:=h
 refine ⟨ao,cap,e,hm,fun i hi=>?_⟩
 obtain ⟨b,off,u,e,h1,h2⟩:=h i hi
 exact ⟨b,off,u,e,cell_less h1 hc,RdV.less h2 hc⟩
def FN (B:Nat→Bool) (w:World) (v:Value) (l:List Nd):Prop:=∃ao cap,v=.slice ao l.length cap∧l.length≤cap∧RdN (veil B w) ao l
theorem FN.up {B:Nat→Bool} {w w':World} {v:Value} {l:List Nd} (h:FN B w v l) (hu:Up B w w'):FN B w' v l:=by
 obtain ⟨ao,cap,e,hc,hr⟩:=h
 exact ⟨ao,cap,e,hc,RdN.up hr hu⟩
theorem up_alloc (B:Nat→Bool) (w:World) (o:Obj):Up B w (w.alloc o):=⟨by simp,fun b _ hb=>heap_alloc_old _ _ hb⟩
theorem cell_new {w:World} {cs:Array Value} {T:TypeId} {B:Nat→Bool} {j:Nat} {u:Value} (hB:B w.heap.size=false) (hj:cs[j]?=some u):(veil B (w.alloc (.cells cs T))).cell? ⟨w.heap.size,j,none⟩=some u:=by
 refine cell_veil ?_ hB
 unfold World.cell?
 rw [heap_alloc_new]
 exact hj
theorem rdV_nil (w:World):RdV w (.slice none 0 0) []:=⟨none,0,rfl,by simp,fun i hi=>absurd hi (by simp),fun i=>by simp⟩
theorem rdVV_nil (w:World):RdVV w (.slice none 0 0) []:=⟨none,0,rfl,by simp,fun i hi=>absurd hi (by simp)⟩
theorem rdVV_one {B:Nat→Bool} {w:World} {T:TypeId} {u:Value} {zs:List Int} (hB:B w.heap.size=false) (h:RdV (veil B w) u zs):RdVV (veil B (w.alloc (.cells #[u] T))) (.slice (some ⟨w.heap.size,0,none⟩) 1 1) [zs]:=by
 refine ⟨_,1,rfl,by simp,fun i hi=>?_⟩
 have:i=0:=by simpa using hi
 subst this
 exact ⟨w.heap.size,0,u,rfl,cell_new hB rfl,RdV.up h (up_alloc B w _)⟩
theorem fn_one {B:Nat→Bool} {w:World} {T:TypeId} {k n c:Int} {ut un:Value} {text:List Int} {names:List (List Int)} (hB:B w.heap.size=false) (ht:RdV (veil B w) ut text) (hn:RdVV (veil B w) un names) :
  FN B (w.alloc (.cells #[.int .i64 k,.int .i64 n,ut,un,.int .i64 c] T)) (.slice (some ⟨w.heap.size,0,none⟩) 1 1) [⟨k,n,text,names,c⟩]:=by
 refine ⟨some ⟨w.heap.size,0,none⟩,1,rfl,Nat.le_refl _,fun i hi=>?_⟩
 have:i=0:=by simpa using hi
 subst this
 have U:=up_alloc B w (.cells #[.int .i64 k,.int .i64 n,ut,un,.int .i64 c] T)
 exact ⟨w.heap.size,0,ut,un,rfl,cell_new hB rfl,cell_new hB rfl,cell_new hB rfl,cell_new hB rfl,cell_new hB rfl,RdV.up ht U,RdVV.up hn U⟩
theorem FN.less {B C:Nat→Bool} {w:World} {v:Value} {l:List Nd} (h:FN B w v l) (hc:∀x,B x=false→C x=false):FN C w v l:=by
 obtain ⟨ao,cap,e,hl,hr⟩:=h
 refine ⟨ao,cap,e,hl,fun i hi=>?_⟩
 obtain ⟨b,off,ut,un,e,c0,c1,c2,c3,c4,ht,hn⟩:=hr i hi
 exact ⟨b,off,ut,un,e,cell_less c0 hc,cell_less c1 hc,cell_less c2 hc,cell_less c3 hc,cell_less c4 hc,RdV.less ht hc,RdVV.less hn hc⟩
def leaf (k:Int):List Nd:=[⟨k,0,[],[],0⟩]
theorem l3leaf_any (w:World) (k:Int) :
  Calls Tryz.prog 32 #[.int .i64 k] w fun e w'=>∃v,e=.returned v∧FN (lt w.heap.size) w' v (leaf k)∧Below w.heap.size w w':=by
 go_enter Tryz.func32,Tryz.ntmps32
 go_wp2
 go_returns
 exact ⟨_,rfl,fn_one (lt_ge (Nat.le_refl _)) (rdV_nil _) (rdVV_nil _),(Below.refl _ _).alloc (Nat.le_refl _) _⟩
def nums (s:ByteArray):List Int:=s.data.toList.map fun b=>(b.toNat:Int)
theorem nums_length (s:ByteArray):(nums s).length=s.size:=by simp [nums]
theorem nums_bts (s:ByteArray):Bts (nums s):=by
 intro i
 unfold nums
 rw [List.getD_eq_getElem?_getD,List.getElem?_map]
 cases h:s.data.toList[i]? with
 |none=>simp
 |some b=>simp only [Option.map_some,Option.getD_some];have:=b.toNat_lt;omega
theorem bel_bytes (w:World) (s:ByteArray):Below w.heap.size w (Lib.bytesWorld w 5 s) :=
 ⟨rfl,rfl,rfl,by rw [Lib.bytesWorld_size];omega,fun j hj=>Lib.bytesWorld_at_old w 5 s j hj⟩
theorem run_append_zero {P:Program} (w:World) (base:Nat) (t ty e:TypeId) (i:TypeInfo) (size:Nat) (ht:P.underlying t=some (.slice e)) (hi:P.info? e=some i)
  (v:Value) (n:Nat) (xs:List Value) (hown:w.ownsRow base e size v n xs) (ao:Option Addr) (c:Nat) :
  (Builtin.append_ #[t,t] ty #[v,.slice ao 0 c]).run P w=.ok v w:=by
 cases ao with
 |none =>
  rcases hown.2 with ⟨rfl,rfl⟩|⟨g,cap,cur,rfl,_,_,hnc,_⟩
  ·simp [Builtin.append_,run_underlying ht,sizeOf,typeInfo,hi,Builtin.lenOf,Builtin.firstCells]
  ·simp [Builtin.append_,run_underlying ht,sizeOf,typeInfo,hi,Builtin.lenOf,Builtin.firstCells,hnc,storeCells]
 |some a =>
  have hf:=run_firstCells_some (P:=P) w i.size 0 a 0 c [] (by simp) (by simp)
  rcases hown.2 with ⟨rfl,rfl⟩|⟨g,cap,cur,rfl,_,_,hnc,_⟩
  ·simp [Builtin.append_,run_underlying ht,sizeOf,typeInfo,hi,Builtin.lenOf,hf]
  ·simp [Builtin.append_,run_underlying ht,sizeOf,typeInfo,hi,Builtin.lenOf,hf,hnc,storeCells]
structure AppR (E c:Nat) (w:World) (base:Nat) (av:Option Addr) (n cv:Nat) (us:List Value) (av':Option Addr) (m cv':Nat) (w':World):Prop where
 own:w'.ownsRow base E c (.slice av' m cv') m us
 grow:w.grownBy w' (Value.slice av n cv).ownBlock
 lies:(av'=av∧cv'=cv)∨∃g,av'=some ⟨g,0,none⟩∧((Value.slice av n cv).ownBlock=some g∨g=w.heap.size)
theorem run_append_row (w:World) (t ty E:TypeId) (i:TypeInfo) (z:Value) (c by_:Nat) (ht:Tryz.prog.underlying t=some (.slice E)) (hi:Tryz.prog.info? E=some i) (hz:i.zero=some z) (hsize:i.size=c) (hby:i.bytes=by_) (hzs:z.cells.size=c) (hc:0<c)
  (base:Nat) (av:Option Addr) (n cv:Nat) (us:List Value) (hown:w.ownsRow base E c (.slice av n cv) n us)
  (ao:Option Addr) (m cx:Nat) (news:List Value) (hl:news.length=m*c) (hr:0<m→∃ad,ao=some ad∧∀j u,news[j]?=some u→w.cell? (ad.add j)=some u) (h1:∀u∈news,u.oneCell'=true) (h63:n+m≤maxLen) (hb:(n+m)*by_≤140737488355328) (hbase:base≤w.heap.size) :
  ∃av' cv' w',(Builtin.append_ #[t,t] ty #[.slice av n cv,.slice ao m cx]).run Tryz.prog w=.ok (.slice av' (n+m) cv') w'∧AppR E c w base av n cv (us++news) av' (n+m) cv' w':=by
 by_cases h0:m=0
 ·subst h0
  obtain rfl:news=[]:=List.length_eq_zero_iff.1 (by omega)
  exact ⟨av,cv,w,run_append_zero w base t ty E i c ht hi _ n _ hown ao cx,by simpa using hown,World.grownBy.refl _ _,.inl ⟨rfl,rfl⟩⟩
 ·obtain ⟨a,rfl,hn⟩:=hr (by omega)
  obtain ⟨g,cap,w',e1,e2,e3,e4,_⟩:=run_append_lies (P:=Tryz.prog) w t ty base E i z c by_ ht hi hz hsize hby hzs hc (.slice av n cv) n us hown a m cx news hl hn h1 (by omega) h63 hb hbase _ rfl
  exact ⟨some ⟨g,0,none⟩,cap,w',e1,e2,e3,.inr ⟨g,rfl,e4⟩⟩
theorem wpList_append_row {ops:Array Oper} {rest:List Oper} {o:Oper} {a:Act} {Q:Exit→Act→World→Prop} {w:World} (hgd:o.guard=none) (s x:Operand) (t:TypeId)
  (ho:o.op=.call {callee:=.builtin .append,args:=#[s,x],argTypes:=#[t,t]})
  (E:TypeId) (i:TypeInfo) (z:Value) (c by_:Nat) (ht:Tryz.prog.underlying t=some (.slice E)) (hi:Tryz.prog.info? E=some i) (hz:i.zero=some z) (hsize:i.size=c) (hby:i.bytes=by_) (hzs:z.cells.size=c) (hc:0<c)
  (base:Nat) (av:Option Addr) (n cv:Nat) (us:List Value) (hs:a.eval s=.slice av n cv) (hown:w.ownsRow base E c (.slice av n cv) n us)
  (ao:Option Addr) (m cx:Nat) (news:List Value) (hx:a.eval x=.slice ao m cx) (hl:news.length=m*c) (hr:0<m→∃ad,ao=some ad∧∀j u,news[j]?=some u→w.cell? (ad.add j)=some u) (h1:∀u∈news,u.oneCell'=true) (h63:n+m≤maxLen) (hb:(n+m)*by_≤140737488355328) (hbase:base≤w.heap.size)
  (h:∀av' cv' w',AppR E c w base av n cv (us++news) av' (n+m) cv' w'→wpList Tryz.prog ops Q rest (a.put o.dst (.slice av' (n+m) cv')) w'):wpList Tryz.prog ops Q (o::rest) a w:=by
 refine wpList_plain hgd fun K hK=>?_
 obtain ⟨av',cv',w',h2,h3⟩:=run_append_row w t o.type E i z c by_ ht hi hz hsize hby hzs hc base av n cv us hown ao m cx news hl hr h1 h63 hb hbase
 unfold Oper.wp execOp
 simp only [ho,resolve,invoke,builtin,Sem.run_bind,Sem.run_pure,Result.andThen_ok,List.map_toArray,List.map_cons,List.map_nil,hs,hx,h2]
 exact hK _ _ (h av' cv' w' h3)
def NR (B:Nat→Bool) (w:World) (us:List Value) (l:List Nd):Prop :=
 us.length=l.length*5∧∀i,i<l.length→∃ut un,us[i*5]?=some (.int .i64 (l.getD i nd0).kind)∧us[i*5+1]?=some (.int .i64 (l.getD i nd0).n)∧us[i*5+2]?=some ut∧us[i*5+3]?=some un ∧
  us[i*5+4]?=some (.int .i64 (l.getD i nd0).count)∧RdV (veil B w) ut (l.getD i nd0).text∧RdVV (veil B w) un (l.getD i nd0).names
theorem NR.up {B:Nat→Bool} {w w':World} {us:List Value} {l:List Nd} (h:NR B w us l) (hu:Up B w w'):NR B w' us l :=
 ⟨h.1,fun i hi=>by
  obtain ⟨ut,un,c0,c1,c2,c3,c4,ht,hn⟩:=h.2 i hi
  exact ⟨ut,un,c0,c1,c2,c3,c4,RdV.up ht hu,RdVV.up hn hu⟩⟩
theorem NR.app {B:Nat→Bool} {w:World} {us vs:List Value} {l m:List Nd} (h:NR B w us l) (k:NR B w vs m):NR B w (us++vs) (l++m):=by
 refine ⟨by rw [List.length_append,List.length_append,h.1,k.1];omega,fun i hi=>?_⟩
 rw [List.length_append] at hi
 by_cases hl:i<l.length
 ·obtain ⟨ut,un,c0,c1,c2,c3,c4,ht,hn⟩:=h.2 i hl
  have e:(l++m).getD i nd0=l.getD i nd0:=by rw [List.getD_eq_getElem?_getD,List.getElem?_append_left hl,← List.getD_eq_getElem?_getD]
  have hlen:=h.1
  rw [e]
  exact ⟨ut,un,by rw [List.getElem?_append_left (by omega)];exact c0,by rw [List.getElem?_append_left (by omega)];exact c1,by rw [List.getElem?_append_left (by omega)];exact c2,by rw [List.getElem?_append_left (by omega)];exact c3,by rw [List.getElem?_append_left (by omega)];exact c4,ht,hn⟩
 ·obtain ⟨ut,un,c0,c1,c2,c3,c4,ht,hn⟩:=k.2 (i-l.length) (by omega)
  have e:(l++m).getD i nd0=m.getD (i-l.length) nd0:=by rw [List.getD_eq_getElem?_getD,List.getElem?_append_right (by omega),← List.getD_eq_getElem?_getD]
  have hlen:=h.1
  have g:∀q,(us++vs)[i*5+q]?=vs[(i-l.length)*5+q]?:=fun q=>by rw [List.getElem?_append_right (by omega)];congr 1;omega
  rw [e]
  exact ⟨ut,un,(g 0).trans c0,(g 1).trans c1,(g 2).trans c2,(g 3).trans c3,(g 4).trans c4,ht,hn⟩
theorem rdV_slice {w:World} {u:Value} {zs:List Int} (h:RdV w u zs):u.oneCell'=true:=by
 obtain ⟨ao,cap,rfl,_⟩:=h;rfl
theorem rdVV_slice {w:World} {u:Value} {l:List (List Int)} (h:RdVV w u l):u.oneCell'=true:=by
 obtain ⟨ao,cap,rfl,_⟩:=h;rfl
theorem NR.one {B:Nat→Bool} {w:World} {us:List Value} {l:List Nd} (h:NR B w us l):∀u∈us,u.oneCell'=true:=by
 intro u hu
 obtain ⟨j,hj,rfl⟩:=List.getElem_of_mem hu
 have hlen:=h.1
 obtain ⟨ut,un,c0,c1,c2,c3,c4,ht,hn⟩:=h.2 (j / 5) (by omega)
 have hg:us[j]?=some us[j]:=List.getElem?_eq_getElem hj
 have hm:j % 5=0∨j % 5=1∨j % 5=2∨j % 5=3∨j % 5=4:=by omega
 rcases hm with e|e|e|e|e
 ·rw [show j / 5*5=j by omega,hg] at c0;rw [Option.some.inj c0];rfl
 ·rw [show j / 5*5+1=j by omega,hg] at c1;rw [Option.some.inj c1];rfl
 ·rw [show j / 5*5+2=j by omega,hg] at c2;rw [Option.some.inj c2];exact rdV_slice ht
 ·rw [show j / 5*5+3=j by omega,hg] at c3;rw [Option.some.inj c3];exact rdVV_slice hn
 ·rw [show j / 5*5+4=j by omega,hg] at c4;rw [Option.some.inj c4];rfl
theorem FN.news {B:Nat→Bool} {w:World} {ao:Option Addr} {cap:Nat} {l:List Nd} (h:RdN (veil B w) ao l) :
  ∃news,NR B w news l∧(0<l.length→∃ad,ao=some ad∧∀j u,news[j]?=some u→w.cell? (ad.add j)=some u)∧cap=cap:=by
 by_cases h0:0<l.length
 ·obtain ⟨b,off,_,_,rfl,_⟩:=h 0 h0
  have hc:∀i,i<l.length→∃ut un,w.cell? ⟨b,off+i*5,none⟩=some (.int .i64 (l.getD i nd0).kind)∧w.cell? ⟨b,off+i*5+1,none⟩=some (.int .i64 (l.getD i nd0).n)∧w.cell? ⟨b,off+i*5+2,none⟩=some ut∧w.cell? ⟨b,off+i*5+3,none⟩=some un∧w.cell? ⟨b,off+i*5+4,none⟩=some (.int .i64 (l.getD i nd0).count)∧RdV (veil B w) ut (l.getD i nd0).text∧RdVV (veil B w) un (l.getD i nd0).names:=fun i hi=>by
   obtain ⟨b',off',ut,un,e,c0,c1,c2,c3,c4,ht,hn⟩:=h i hi
   simp only [Option.some.injEq,Addr.mk.injEq,and_true] at e
   obtain ⟨rfl,rfl⟩:=e
   exact ⟨ut,un,(veil_cell c0).1,(veil_cell c1).1,(veil_cell c2).1,(veil_cell c3).1,(veil_cell c4).1,ht,hn⟩
  refine ⟨(List.range (l.length*5)).map fun j=>(w.cell? ⟨b,off+j,none⟩).getD default,⟨by simp,fun i hi=>?_⟩,fun _=>⟨_,rfl,fun j u hu=>?_⟩,rfl⟩
  ·obtain ⟨ut,un,c0,c1,c2,c3,c4,ht,hn⟩:=hc i hi
   have g:∀q u,q<5→w.cell? ⟨b,off+i*5+q,none⟩=some u→((List.range (l.length*5)).map fun j=>(w.cell? ⟨b,off+j,none⟩).getD default)[i*5+q]?=some u:=fun q u hq hu=>by
    rw [List.getElem?_map,List.getElem?_range (by omega)]
    simp only [Option.map_some,← Nat.add_assoc,hu,Option.getD_some]
   exact ⟨ut,un,g 0 _ (by omega) c0,g 1 _ (by omega) c1,g 2 _ (by omega) c2,g 3 _ (by omega) c3,g 4 _ (by omega) c4,ht,hn⟩
  ·rw [List.getElem?_map] at hu
   cases hj:(List.range (l.length*5))[j]? with
   |none=>rw [hj] at hu;cases hu
   |some q =>
    rw [hj] at hu
    have hlt:j<l.length*5:=by
     rcases Nat.lt_or_ge j (l.length*5) with h'|h'
     ·exact h'
     ·rw [List.getElem?_eq_none (by simpa using h')] at hj;cases hj
    rw [List.getElem?_range hlt] at hj
    obtain rfl:=Option.some.inj hj
    have hs:∃x,w.cell? ⟨b,off+j,none⟩=some x:=by
     obtain ⟨ut,un,c0,c1,c2,c3,c4,_⟩:=hc (j / 5) (by omega)
     have hm:j % 5=0∨j % 5=1∨j % 5=2∨j % 5=3∨j % 5=4:=by omega
     rcases hm with e|e|e|e|e
     ·rw [show off+j / 5*5=off+j by omega] at c0;exact ⟨_,c0⟩
     ·rw [show off+j / 5*5+1=off+j by omega] at c1;exact ⟨_,c1⟩
     ·rw [show off+j / 5*5+2=off+j by omega] at c2;exact ⟨_,c2⟩
     ·rw [show off+j / 5*5+3=off+j by omega] at c3;exact ⟨_,c3⟩
     ·rw [show off+j / 5*5+4=off+j by omega] at c4;exact ⟨_,c4⟩
    obtain ⟨x,hx⟩:=hs
    rw [plainAt,hx]
    simp only [Option.map_some,hx,Option.getD_some] at hu
    exact hu
 ·obtain rfl:l=[]:=by cases l with|nil=>rfl|cons a t=>simp at h0
  exact ⟨[],⟨rfl,fun i hi=>absurd hi (by simp)⟩,fun h'=>absurd h' (by simp),rfl⟩
def FNs (B:Nat→Bool) (w:World) (v:Value) (ks:List (List Nd)):Prop :=
 ∃ao cap,v=.slice ao ks.length cap∧∀i,i<ks.length→∃b off u,ao=some ⟨b,off,none⟩∧(veil B w).cell? ⟨b,off+i,none⟩=some u∧FN B w u (ks.getD i [])
theorem FNs.up {B:Nat→Bool} {w w':World} {v:Value} {ks:List (List Nd)} (h:FNs B w v ks) (hu:Up B w w'):FNs B w' v ks:=by
 obtain ⟨ao,cap,e,h⟩:=h
 refine ⟨ao,cap,e,fun i hi=>?_⟩
 obtain ⟨b,off,u,e,hc,hf⟩:=h i hi
 exact ⟨b,off,u,e,hu.cell hc,hf.up hu⟩
def node (n:Nd) (ks:List (List Nd)):List Nd:=⟨n.kind,n.n,n.text,n.names,ks.length⟩::ks.flatten
theorem up_below {B:Nat→Bool} {w w':World} (h:Below w.heap.size w w'):Up B w w':=⟨h.size,fun b _ hb=>h.block b hb⟩
theorem fn_own {B:Nat→Bool} {base T m cv:Nat} {w:World} {av:Option Addr} {us:List Value} {l:List Nd} (hB:∀b,base≤b→B b=false) (h:w.ownsRow base T 5 (.slice av m cv) m us) (hm:m=l.length) (hn:NR B w us l):FN B w (.slice av m cv) l:=by
 subst hm
 rcases h.2 with ⟨e,e0⟩|⟨g,cap,cur,e,hg,hh,hnc,_,hs,ht⟩
 ·simp only [Value.slice.injEq] at e
  obtain ⟨rfl,hm0,rfl⟩:=e
  exact ⟨none,0,rfl,by omega,fun i hi=>absurd hi (by omega)⟩
 ·simp only [Value.slice.injEq] at e
  obtain ⟨rfl,_,rfl⟩:=e
  refine ⟨_,_,rfl,hnc,fun i hi=>?_⟩
  obtain ⟨ut,un,c0,c1,c2,c3,c4,ht',hn'⟩:=hn.2 i hi
  have g5:∀q u,q<5→us[i*5+q]?=some u→(veil B w).cell? ⟨g,0+i*5+q,none⟩=some u:=fun q u hq hu=>by
   refine cell_veil ?_ (hB g hg)
   rw [Nat.zero_add,World.ownsRow.cellAt h (i*5+q) (by omega)]
   exact hu
  exact ⟨g,0,ut,un,rfl,g5 0 _ (by omega) c0,g5 1 _ (by omega) c1,g5 2 _ (by omega) c2,g5 3 _ (by omega) c3,g5 4 _ (by omega) c4,ht',hn'⟩
theorem info_node:(Tryz.prog.info? 61).map (fun i=>(i.zero,i.size,i.bytes))=some (some (.agg #[.int .i64 0,.int .i64 0,.slice none 0 0,.slice none 0 0,.int .i64 0]),5,72):=by kernel_rfl
theorem l3node_any (B:Nat→Bool) (w:World) (n:Nd) (ut un vk:Value) (ks:List (List Nd)) (hB:∀b,w.heap.size≤b→B b=false) (ht:RdV (veil B w) ut n.text) (hn:RdVV (veil B w) un n.names) (hk:FNs B w vk ks) (hs:(node n ks).length≤1000000) (hkl:ks.length≤1000000) :
  Calls Tryz.prog 31 #[.agg #[.int .i64 n.kind,.int .i64 n.n,ut,un,.int .i64 n.count],vk] w fun e w'=>∃x,e=.returned x∧FN B w' x (node n ks)∧Below w.heap.size w w':=by
 obtain ⟨ao,cap,rfl,hk⟩:=hk
 obtain ⟨i0,hi0,hz0,hz1,hz2⟩:=info_parts info_node
 obtain ⟨N,hN⟩:∃N,N=ks.length:=⟨_,rfl⟩
 have hNb:N≤1000000:=by omega
 have HK:Hid (∀i,i<N→∃b off u,ao=some ⟨b,off,none⟩∧(veil B w).cell? ⟨b,off+i,none⟩=some u∧FN B w u (ks.getD i [])):=fun i hi=>hk i (by omega)
 have HN:Hid (N=ks.length):=hN
 have HS:Hid ((node n ks).length≤1000000):=hs
 have H0:Hid (NR B w [.int .i64 n.kind,.int .i64 n.n,ut,un,.int .i64 (N:Int)] [⟨n.kind,n.n,n.text,n.names,ks.length⟩]):=⟨rfl,fun i hi=>by
  have:i=0:=by simpa using hi
  subst this
  exact ⟨ut,un,rfl,rfl,rfl,rfl,by rw [hN];rfl,ht,hn⟩⟩
 rw [← hN]
 clear hk hs ht hn hN hkl
 go_enter Tryz.func31,Tryz.ntmps31
 go_wp2
 go_loopw [5,6] (fun v x wr=>∃(k m cv:Nat) (av:Option Addr) (us:List Value),k≤N∧x=.int .i64 (k:Int)∧v=.slice av m cv∧m≤1000000∧Hid (wr.ownsRow w.heap.size 61 5 (.slice av m cv) m us)∧Hid (NR B w us (⟨n.kind,n.n,n.text,n.names,ks.length⟩::(ks.take k).flatten))∧Hid (m=1+((ks.take k).flatten).length)∧Hid (Below w.heap.size w wr)) (fun _ x _=>N-(intOf x).toNat)
 case atStart =>
  have hb:Below w.heap.size w ((w.alloc (.cells #[.int .i64 n.kind,.int .i64 n.n,ut,un,.int .i64 (N:Int)] 61)).alloc (.cells #[.int .i64 n.kind,.int .i64 n.n,ut,un,.int .i64 (N:Int)] 61)):=((Below.refl _ _).alloc (Nat.le_refl _) _).alloc (by simp) _
  refine ⟨0,1,1,_,[.int .i64 n.kind,.int .i64 n.n,ut,un,.int .i64 (N:Int)],Nat.zero_le _,rfl,rfl,by omega,?_,H0.out,by show 1=_;simp,hb⟩
  refine ⟨rfl,.inr ⟨w.heap.size+1,1,#[.int .i64 n.kind,.int .i64 n.n,ut,un,.int .i64 (N:Int)],rfl,by omega,?_,by omega,by unfold maxLen;omega,by simp,by simp⟩⟩
  have:=heap_alloc_new (w.alloc (.cells #[.int .i64 n.kind,.int .i64 n.n,ut,un,.int .i64 (N:Int)] 61)) (.cells #[.int .i64 n.kind,.int .i64 n.n,ut,un,.int .i64 (N:Int)] 61)
  simpa using this
 case round =>
  obtain ⟨k,m,cv,av,us,hkN,rfl,rfl,hm,HO,HR,HM,HB⟩:=hrel
  by_cases hlt:k<N
  ·obtain ⟨b,off,u,rfl,hcu,ao2,cap2,rfl,hc2,hrd⟩:=HK.out k hlt
   obtain ⟨news,hnr,hnw,_⟩:=FN.news (cap:=0) hrd
   have hkl:k<ks.length:=by have:=HN.out;omega
   have efl:(ks.take (k+1)).flatten=(ks.take k).flatten++ks.getD k []:=by
    rw [List.take_add_one,List.flatten_append,List.getElem?_eq_getElem hkl,List.getD_eq_getElem?_getD,List.getElem?_eq_getElem hkl]
    simp
   have htot:(ks.take (k+1)).flatten.length≤ks.flatten.length:=by
    have:ks.flatten=(ks.take (k+1)).flatten++(ks.drop (k+1)).flatten:=by rw [← List.flatten_append,List.take_append_drop]
    rw [this,List.length_append];omega
   have hmM:m+(ks.getD k []).length≤1000000:=by
    have h1:=HM.out
    have h2:=HS.out
    rw [efl,List.length_append] at htot
    simp only [node,List.length_cons] at h2
    omega
   have kc:wr.cell? ⟨b,off+k,none⟩=some (.slice ao2 (ks.getD k []).length cap2):=cellB (veil_cell hcu).1 HB.out
   have NW:Hid (0<(ks.getD k []).length→∃ad,ao2=some ad∧∀j u,news[j]?=some u→wr.cell? (ad.add j)=some u):=fun h0=>by
    obtain ⟨ad,e,h⟩:=hnw h0
    exact ⟨ad,e,fun j u hu=>(HB.out.cell (World.block_lt_of_cell? _ _ (h j u hu))).trans (h j u hu)⟩
   have HL:news.length=(ks.getD k []).length*5:=hnr.1
   have H1:=hnr.one
   have HNX:Hid (NR B w (us++news) (⟨n.kind,n.n,n.text,n.names,ks.length⟩::(ks.take (k+1)).flatten)):=by
    have:=HR.out.app hnr
    rw [List.cons_append,← efl] at this
    exact this
   have HMX:Hid (m+(ks.getD k []).length=1+(ks.take (k+1)).flatten.length):=by
    show _=_
    rw [efl,List.length_append,HM.out];omega
   have hbs:w.heap.size≤wr.heap.size:=HB.out.size
   clear hcu hc2 hrd hnr hnw efl htot HR
   generalize (ks.getD k []).length=M at hmM kc NW HL HMX
   have i1:(k:Int)<(N:Int):=by omega
   go_wp2_with (at_builtin;refine wpList_append_row rfl _ _ _ rfl 61 i0 (.agg #[.int .i64 0,.int .i64 0,.slice none 0 0,.slice none 0 0,.int .i64 0]) 5 72 Tryz.underlying23 hi0 hz0 hz1 hz2 rfl (by omega) w.heap.size av m cv us rfl HO.out ao2 M cap2 news rfl HL NW.out H1 (by unfold maxLen;omega) (by omega) hbs ?_;intro av5 cv5 w5 HA)
   refine ⟨⟨k+1,m+M,cv5,av5,us++news,by omega,by go_num,rfl,hmM,HA.own,HNX,HMX,HB.out.grown HA.grow HB.out.size (fun q hq=>(HO.out.lt q hq).1)⟩,by simp [intOf];omega⟩
  ·have hkn:k=N:=by omega
   subst hkn
   have eall:ks.take k=ks:=by rw [HN.out];exact List.take_length
   have F:Hid (FN B wr (.slice av m cv) (node n ks)):=by
    have h1:=HR.out
    have h2:=HM.out
    rw [eall] at h1 h2
    exact fn_own hB HO.out (by rw [h2];simp [node];omega) (h1.up (up_below HB.out))
   clear HR HM eall HS HK H0
   have i1:¬((k:Int)<(k:Int)):=by omega
   go_wp2
   go_returns
   exact ⟨_,rfl,F.out,HB.out⟩
def KR (B:Nat→Bool) (w:World) (us:List Value) (ks:List (List Nd)):Prop :=
 us.length=ks.length∧∀i,i<ks.length→∃u,us[i]?=some u∧FN B w u (ks.getD i [])
theorem kr_nil (B:Nat→Bool) (w:World):KR B w [] []:=⟨rfl,fun i hi=>absurd hi (by simp)⟩
theorem KR.up {B:Nat→Bool} {w w':World} {us:List Value} {ks:List (List Nd)} (h:KR B w us ks) (hu:Up B w w'):KR B w' us ks :=
 ⟨h.1,fun i hi=>by
  obtain ⟨u,e,hf⟩:=h.2 i hi
  exact ⟨u,e,hf.up hu⟩⟩
theorem kr_one {B:Nat→Bool} {w:World} {u:Value} {l:List Nd} (h:FN B w u l):KR B w [u] [l]:=⟨rfl,fun i hi=>by
 have:i=0:=by simpa using hi
 subst this
 exact ⟨u,rfl,h⟩⟩
theorem KR.app {B:Nat→Bool} {w:World} {us vs:List Value} {l m:List (List Nd)} (h:KR B w us l) (k:KR B w vs m):KR B w (us++vs) (l++m):=by
 refine ⟨by rw [List.length_append,List.length_append,h.1,k.1],fun i hi=>?_⟩
 rw [List.length_append] at hi
 have hlen:=h.1
 by_cases hl:i<l.length
 ·obtain ⟨u,e,hf⟩:=h.2 i hl
  exact ⟨u,by rw [List.getElem?_append_left (by omega)];exact e,by rw [List.getD_eq_getElem?_getD,List.getElem?_append_left hl,← List.getD_eq_getElem?_getD];exact hf⟩
 ·obtain ⟨u,e,hf⟩:=k.2 (i-l.length) (by omega)
  exact ⟨u,by rw [List.getElem?_append_right (by omega),hlen];exact e,by rw [List.getD_eq_getElem?_getD,List.getElem?_append_right (by omega),← List.getD_eq_getElem?_getD];exact hf⟩
theorem KR.one {B:Nat→Bool} {w:World} {us:List Value} {ks:List (List Nd)} (h:KR B w us ks):∀u∈us,u.oneCell'=true:=by
 intro u hu
 obtain ⟨j,hj,rfl⟩:=List.getElem_of_mem hu
 obtain ⟨u,e,ao,cap,rfl,_⟩:=h.2 j (by have:=h.1;omega)
 rw [List.getElem?_eq_getElem hj] at e
 rw [Option.some.inj e];rfl
theorem fns_own {B:Nat→Bool} {base T m cv:Nat} {w:World} {av:Option Addr} {us:List Value} {ks:List (List Nd)} (hB:∀b,(Value.slice av m cv).ownBlock=some b→B b=false) (h:w.ownsRow base T 1 (.slice av m cv) m us) (hm:m=ks.length) (hn:KR B w us ks):FNs B w (.slice av m cv) ks:=by
 rcases h.2 with ⟨e,e0⟩|⟨g,cap,cur,e,hg,hh,hnc,_,hs,ht⟩
 ·simp only [Value.slice.injEq] at e
  obtain ⟨rfl,hm0,rfl⟩:=e
  exact ⟨none,0,by rw [hm],fun i hi=>absurd hi (by omega)⟩
 ·subst hm
  simp only [Value.slice.injEq] at e
  obtain ⟨rfl,_,rfl⟩:=e
  refine ⟨_,_,rfl,fun i hi=>?_⟩
  obtain ⟨u,e,hf⟩:=hn.2 i hi
  refine ⟨g,0,u,rfl,cell_veil ?_ (hB g rfl),hf⟩
  rw [Nat.zero_add,World.ownsRow.cellAt h i (by omega)]
  exact e
theorem FNs.news {B:Nat→Bool} {w:World} {ao:Option Addr} {ks:List (List Nd)} (h:∀i,i<ks.length→∃b off u,ao=some ⟨b,off,none⟩∧(veil B w).cell? ⟨b,off+i,none⟩=some u∧FN B w u (ks.getD i [])) :
  ∃news,KR B w news ks∧(0<ks.length→∃ad,ao=some ad∧∀j u,news[j]?=some u→w.cell? (ad.add j)=some u):=by
 by_cases h0:0<ks.length
 ·obtain ⟨b,off,_,rfl,_⟩:=h 0 h0
  have hc:∀i,i<ks.length→∃u,w.cell? ⟨b,off+i,none⟩=some u∧FN B w u (ks.getD i []):=fun i hi=>by
   obtain ⟨b',off',u,e,hu,hf⟩:=h i hi
   simp only [Option.some.injEq,Addr.mk.injEq,and_true] at e
   obtain ⟨rfl,rfl⟩:=e
   exact ⟨u,(veil_cell hu).1,hf⟩
  refine ⟨(List.range ks.length).map fun j=>(w.cell? ⟨b,off+j,none⟩).getD default,⟨by simp,fun i hi=>?_⟩,fun _=>⟨_,rfl,fun j u hu=>?_⟩⟩
  ·obtain ⟨u,hu,hf⟩:=hc i hi
   exact ⟨u,by rw [List.getElem?_map,List.getElem?_range hi];simp [hu],hf⟩
  ·rcases Nat.lt_or_ge j ks.length with hj|hj
   ·obtain ⟨x,hx,_⟩:=hc j hj
    rw [List.getElem?_map,List.getElem?_range hj] at hu
    simp only [Option.map_some,hx,Option.getD_some] at hu
    rw [plainAt,hx];exact hu
   ·rw [List.getElem?_eq_none (by simpa using hj)] at hu;cases hu
 ·obtain rfl:ks=[]:=by cases ks with|nil=>rfl|cons a t=>simp at h0
  exact ⟨[],kr_nil _ _,fun h'=>absurd h' (by simp)⟩
theorem info_nodes:(Tryz.prog.info? 23).map (fun i=>(i.zero,i.size,i.bytes))=some (some (.slice none 0 0),1,24):=by kernel_rfl
end tk
namespace ip
open Go.RowKit bts nod tk
theorem info_u8:(Tryz.prog.info? 5).map (fun i=>(i.zero,i.size,i.bytes))=some (some (.int .u8 0),1,1):=by kernel_rfl
theorem bcells_one (l:List Int):∀u∈bcells l,u.oneCell'=true:=by
 intro u hu
 simp only [bcells,List.mem_map] at hu
 obtain ⟨_,_,rfl⟩:=hu
 rfl
theorem cloneB_any (ao:Option Addr) (n cap:Nat) (l:List Int) (w:World) (hl:l.length=n) (hr:Rd w ao l) (hs:n≤1048576) :
  Calls Tryz.prog 125 #[.slice ao n cap] w fun e w'=>∃av cv,e=.returned (.slice av l.length cv)∧w'.ownsRow w.heap.size 5 1 (.slice av l.length cv) l.length (bcells l)∧Below w.heap.size w w':=by
 subst hl
 have hnil:=fun (W:World) (a:Option Addr) (m k:Nat)=>Lib.run_eql_slice_nil (P:=Tryz.prog) W 22 5 a m k 0 0 Tryz.underlying22
 cases ao with
 |none =>
  have h0:l.length=0:=by
   by_cases h:0<l.length
   ·obtain ⟨_,_,e,_⟩:=hr 0 h;cases e
   ·omega
  obtain rfl:=List.length_eq_zero_iff.1 h0
  go_enter Tryz.func125,Tryz.ntmps125
  go_wp2
  go_returns
  exact ⟨none,0,rfl,World.ownsRow_nil _ _ _ _,Below.refl _ _⟩
 |some a =>
  obtain ⟨i0,hi0,hz0,hz1,hz2⟩:=info_parts info_u8
  have hr1:Hid (0<l.length→∃ad,some a=some ad∧∀j u,(bcells l)[j]?=some u→(w.alloc (.cells #[] 5)).cell? (ad.add j)=some u):=fun _=>⟨a,rfl,fun j u hu=>by
   have hj:j<l.length:=by
    rcases Nat.lt_or_ge j l.length with h|h
    ·exact h
    ·simp [bcells,List.getElem?_eq_none h] at hu
   obtain ⟨b,off,e,hc⟩:=(hr.below ((Below.refl w.heap.size w).alloc (Nat.le_refl _) (.cells #[] 5))) j hj
   simp only [Option.some.injEq] at e
   subst e
   rw [plainAt]
   have:u=.int .u8 (l.getD j 0):=by
    simp [bcells,List.getElem?_eq_getElem hj] at hu
    simp [List.getD_eq_getElem?_getD,List.getElem?_eq_getElem hj,hu]
   rw [this]
   exact hc⟩
  have h0:(w.alloc (.cells #[] 5)).ownsRow w.heap.size 5 1 (.slice (some ⟨w.heap.size,0,none⟩) 0 0) 0 (bcells []):=by
   have:=World.ownsRow_lit (base:=w.heap.size) (e:=5) (size:=1) w #[] 0 (Nat.le_refl _) (by unfold maxLen;omega) rfl
   exact this
  have hB:=(Below.refl w.heap.size w).alloc (Nat.le_refl _) (.cells #[] 5)
  clear hr
  go_enter Tryz.func125,Tryz.ntmps125
  go_wp2_with (at_builtin;refine wpList_append_row rfl _ _ _ rfl 5 i0 (.int .u8 0) 1 1 Tryz.underlying22 hi0 hz0 hz1 hz2 rfl (by omega) w.heap.size (some ⟨w.heap.size,0,none⟩) 0 0 (bcells []) rfl h0 (some a) l.length cap (bcells l) rfl (by simp [bcells]) hr1.out (bcells_one l) (by unfold maxLen;omega) (by omega) (by simp) ?_;intro av' cv' w2 hA;have HA:Hid _:=hA;clear hA)
  go_returns
  refine ⟨av',cv',by first|rfl|(rw [Nat.zero_add];rfl),?_,hB.grown HA.out.grow (by simp) (fun k hk=>(h0.lt k hk).1)⟩
  have:=HA.out.own
  rw [Nat.zero_add] at this
  exact this
end ip
end Go.Proofs.YtkmiagkehcflnaaGreatDoor
