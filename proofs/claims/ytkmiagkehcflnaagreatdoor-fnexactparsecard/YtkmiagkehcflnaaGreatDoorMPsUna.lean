import Derived.Test.YtkmiagkehcflnaaGreatDoorMIpClone
import Derived.Test.YtkmiagkehcflnaaGreatDoorMPsStart
import Derived.Test.YtkmiagkehcflnaaGreatDoorMIpPure
set_option maxRecDepth 100000
set_option maxHeartbeats 8000000
namespace Go.Proofs.YtkmiagkehcflnaaGreatDoor
namespace ps
open Go.RowKit bts nod lex tk
structure En where
 w0:World
 sv:Option Addr
 sc:Nat
 tv:Option Addr
 tc:Nat
 zs:List Int
 T:List (Int×Nat×Nat)
def En.ok (E:En):Prop:=Sr E.w0 E.sv E.sc E.tv E.tc E.zs E.T
def En.pp (E:En) (w:World) (g:Nat) (s:Ps):Prop:=Pp E.w0 E.sv E.sc E.tv E.tc E.zs E.T w g s
section
variable {V V':Nat→Bool} {w:World}
theorem cell_veils {a:Addr} {v:Value} (h:(veil V w).cell? a=some v) (hc:∀x,x<w.heap.size→V x=false→V' x=false):(veil V' w).cell? a=some v:=by
 obtain ⟨h1,h2⟩:=veil_cell h
 exact cell_veil h1 (hc _ (World.block_lt_of_cell? _ _ h1) h2)
theorem rdv_veils {v:Value} {zs:List Int} (h:RdV (veil V w) v zs) (hc:∀x,x<w.heap.size→V x=false→V' x=false):RdV (veil V' w) v zs:=by
 obtain ⟨ao,cap,e,hm,hr,hz⟩:=h
 refine ⟨ao,cap,e,hm,fun i hi=>?_,hz⟩
 obtain ⟨b,off,e,h⟩:=hr i hi
 exact ⟨b,off,e,cell_veils h hc⟩
theorem rdvv_veils {v:Value} {l:List (List Int)} (h:RdVV (veil V w) v l) (hc:∀x,x<w.heap.size→V x=false→V' x=false):RdVV (veil V' w) v l:=by
 obtain ⟨ao,cap,e,hm,h⟩:=h
 refine ⟨ao,cap,e,hm,fun i hi=>?_⟩
 obtain ⟨b,off,u,e,h1,h2⟩:=h i hi
 exact ⟨b,off,u,e,cell_veils h1 hc,rdv_veils h2 hc⟩
theorem fn_veils {v:Value} {l:List Nd} (h:FN V w v l) (hc:∀x,x<w.heap.size→V x=false→V' x=false):FN V' w v l:=by
 obtain ⟨ao,cap,e,hl,hr⟩:=h
 refine ⟨ao,cap,e,hl,fun i hi=>?_⟩
 obtain ⟨b,off,ut,un,e,c0,c1,c2,c3,c4,ht,hn⟩:=hr i hi
 exact ⟨b,off,ut,un,e,cell_veils c0 hc,cell_veils c1 hc,cell_veils c2 hc,cell_veils c3 hc,cell_veils c4 hc,rdv_veils ht hc,rdvv_veils hn hc⟩
theorem kr_veils {us:List Value} {ks:List (List Nd)} (h:KR V w us ks) (hc:∀x,x<w.heap.size→V x=false→V' x=false):KR V' w us ks :=
 ⟨h.1,fun i hi=>by
  obtain ⟨u,e,hf⟩:=h.2 i hi
  exact ⟨u,e,fn_veils hf hc⟩⟩
theorem fns_veils {v:Value} {ks:List (List Nd)} (h:FNs V w v ks) (hc:∀x,x<w.heap.size→V x=false→V' x=false):FNs V' w v ks:=by
 obtain ⟨ao,cap,e,h⟩:=h
 refine ⟨ao,cap,e,fun i hi=>?_⟩
 obtain ⟨b,off,u,e,hcc,hf⟩:=h i hi
 exact ⟨b,off,u,e,cell_veils hcc hc,fn_veils hf hc⟩
theorem own_far {w w':World} {B E c n:Nat} {v:Value} {us:List Value} (h:w.ownsRow B E c v n us) (hk:∀b,v.ownBlock=some b→w'.heap[b]?=w.heap[b]?):w'.ownsRow B E c v n us:=by
 obtain ⟨h1,h2⟩:=h
 refine ⟨h1,?_⟩
 rcases h2 with h|⟨g',c,cur,e',hb',hh,r⟩
 ·exact .inl h
 ·exact .inr ⟨g',c,cur,e',hb',(hk g' (by rw [e'];rfl)).trans hh,r⟩
end
def hd (w:World) (Q:Nat→Bool):Nat→Bool:=fun b=>tk.lt w.heap.size b || Q b
def no:Nat→Bool:=fun _=>false
def qn (Q:Nat→Bool) (v:Value):Nat→Bool:=fun b=>Q b || decide (v.ownBlock=some b)
structure Cur (E:En) (w:World) (g:Nat) (Q:Nat→Bool) (W:World) (s:Ps):Prop where
 ok:E.ok
 pp:E.pp W g s
 fq:Fq g w W
 hg:g<w.heap.size
 hq:∀b,Q b=true→w.heap.size≤b∧b<W.heap.size
def Kids (w:World) (Q:Nat→Bool) (W:World) (v:Value) (ks:List (List Nd)):Prop:=∃us,W.ownsRow w.heap.size 23 1 v ks.length us∧(∀b,v.ownBlock=some b→Q b=true)∧KR (hd w Q) W us ks
def Mv (w:World) (Q:Nat→Bool) (W:World) (Q':Nat→Bool) (W':World):Prop:=Up (hd w Q') W W'∧∀b,b<W.heap.size→hd w Q b=false→hd w Q' b=false
section
variable {E:En} {Q Q':Nat→Bool} {w W W':World} {g:Nat} {s s':Ps} {x:Value} {l:List Nd} {ks:List (List Nd)}
theorem Cur.start (ok:E.ok) (h:E.pp w g s):Cur E w g no w s:=⟨ok,h,.refl _ _,Pp.lt h,fun b h=>by simp [no] at h⟩
theorem Cur.sz (C:Cur E w g Q W s):w.heap.size≤W.heap.size:=C.fq.below.size
theorem Cur.gW (C:Cur E w g Q W s):g<W.heap.size:=Pp.lt C.pp
theorem Cur.to (C:Cur E w g Q W s) (hF:Fq g W W') (hP:E.pp W' g s'):Cur E w g Q W' s' :=
 ⟨C.ok,hP,C.fq.trans hF,C.hg,fun b h=>⟨(C.hq b h).1,Nat.lt_of_lt_of_le (C.hq b h).2 hF.below.size⟩⟩
theorem Cur.up (C:Cur E w g Q W s) (hF:Fq g W W'):Up (hd w Q) W W':=up_fq hF (by have:=C.hg;simp [hd,tk.lt,this])
theorem Cur.fn (C:Cur E w g Q W s) (hF:Fq g W W') (h:FN (hd w Q) W x l):FN (hd w Q) W' x l:=h.up (C.up hF)
theorem Cur.rv {zs:List Int} (C:Cur E w g Q W s) (hF:Fq g W W') (h:RdV (veil (hd w Q) W) x zs):RdV (veil (hd w Q) W') x zs:=RdV.up h (C.up hF)
theorem Cur.rvv {zs:List (List Int)} (C:Cur E w g Q W s) (hF:Fq g W W') (h:RdVV (veil (hd w Q) W) x zs):RdVV (veil (hd w Q) W') x zs:=RdVV.up h (C.up hF)
theorem Cur.kids (C:Cur E w g Q W s) (hF:Fq g W W') (h:Kids w Q W x ks):Kids w Q W' x ks:=by
 obtain ⟨us,h1,h2,h3⟩:=h
 refine ⟨us,own_far h1 (fun b e=>?_),h2,h3.up (C.up hF)⟩
 have hb:=h1.lt b e
 have:=C.hg
 exact hF.keep b hb.2 (by omega)
theorem Cur.bel (C:Cur E w g Q W s) (hB:Below W.heap.size W W'):Cur E w g Q W' s∧Fq g W W':=by
 have hF:Fq g W W':=.of (Nat.le_of_lt C.gW) hB
 exact ⟨C.to hF (Pp.keep C.pp hB),hF⟩
theorem Cur.new (C:Cur E w g Q W s) {b:Nat} (hb:W.heap.size≤b):hd w Q b=false:=by
 have h1:=C.sz
 have h3:Q b=false:=by
  cases h:Q b with
  |false=>rfl
  |true=>have:=(C.hq b h).2;omega
 simp [hd,h3,tk.lt]
 omega
theorem Cur.less (C:Cur E w g Q W s) {b:Nat} (hb:tk.lt W.heap.size b=false):hd w Q b=false:=C.new (by simp [tk.lt] at hb;omega)
theorem Cur.is (C:Cur E w g Q W s) {t:ByteArray} {b:Bool} (h:isP E.zs E.T s t=b) :
  Calls Tryz.prog 55 #[.pointer (some ⟨g,0,none⟩),.string t] W fun e w'=>e=.returned (.bool b)∧Cur E w g Q w' s∧Fq g W w' :=
 (l3is_any C.ok C.pp t).mono (by
  rintro e w' ⟨rfl,hB⟩
  exact ⟨by rw [h],(C.bel hB).1,(C.bel hB).2⟩)
theorem Cur.got (C:Cur E w g Q W s) {t:ByteArray} {b:Bool} (h:isP E.zs E.T s t=b) (hs:ps.got E.zs E.T s t=s') :
  Calls Tryz.prog 28 #[.pointer (some ⟨g,0,none⟩),.string t] W fun e w'=>e=.returned (.bool b)∧Cur E w g Q w' s'∧Fq g W w' :=
 (l3got_any C.ok C.pp t).mono (by
  rintro e w' ⟨rfl,hP,hF⟩
  exact ⟨by rw [h],C.to hF (by rw [← hs];exact hP),hF⟩)
theorem Cur.want (C:Cur E w g Q W s) {t:ByteArray} (hs:ps.want E.zs E.T s t=s') :
  Calls Tryz.prog 61 #[.pointer (some ⟨g,0,none⟩),.string t] W fun e w'=>(∃v,e=.returned v)∧Cur E w g Q w' s'∧Fq g W w' :=
 (l3want_any C.ok C.pp t).mono (by
  rintro e w' ⟨he,hP,hF⟩
  exact ⟨he,C.to hF (by rw [← hs];exact hP),hF⟩)
theorem Cur.wrong (C:Cur E w g Q W s) :
  Calls Tryz.prog 14 #[.pointer (some ⟨g,0,none⟩)] W fun e w'=>(∃v,e=.returned v)∧Cur E w g Q w' (ps.wrong E.zs E.T s)∧Fq g W w' :=
 (l3wrong_any C.ok C.pp).mono (by
  rintro e w' ⟨he,hP,hF⟩
  exact ⟨he,C.to hF hP,hF⟩)
theorem Cur.kind (C:Cur E w g Q W s) {k:Int} (h:kindP E.T s=k) :
  Calls Tryz.prog 56 #[.pointer (some ⟨g,0,none⟩)] W fun e w'=>e=.returned (.int .i64 k)∧Cur E w g Q w' s∧Fq g W w' :=
 (l3kind_any C.ok C.pp).mono (by
  rintro e w' ⟨rfl,m,rfl⟩
  have hB:Below W.heap.size W (W.drewN m):=tk.bel_drewN (Below.refl _ _) m
  exact ⟨by rw [h],(C.bel hB).1,(C.bel hB).2⟩)
theorem Cur.now (C:Cur E w g Q W s) {t:ByteArray} (h:ps.now E.zs E.T s=t) :
  Calls Tryz.prog 90 #[.pointer (some ⟨g,0,none⟩)] W fun e w'=>e=.returned (.string t)∧Cur E w g Q w' s∧Fq g W w' :=
 (l3now_any C.ok C.pp).mono (by
  rintro e w' ⟨rfl,hB⟩
  exact ⟨by rw [h],(C.bel hB).1,(C.bel hB).2⟩)
theorem Cur.starts (C:Cur E w g Q W s) {b:Bool} (h:ps.starts E.zs E.T s=b) :
  Calls Tryz.prog 29 #[.pointer (some ⟨g,0,none⟩)] W fun e w'=>e=.returned (.bool b)∧Cur E w g Q w' s∧Fq g W w' :=
 (l3starts_any C.ok C.pp).mono (by
  rintro e w' ⟨rfl,hB⟩
  exact ⟨by rw [h],(C.bel hB).1,(C.bel hB).2⟩)
theorem Cur.name (C:Cur E w g Q W s) {y:List Int} (hy:nameT E.zs E.T s=y) (hs:nameS E.zs E.T s=s') :
  Calls Tryz.prog 58 #[.pointer (some ⟨g,0,none⟩)] W fun e w'=>∃a c,e=.returned (.slice a y.length c)∧RdV (veil (hd w Q) w') (.slice a y.length c) y∧Cur E w g Q w' s'∧Fq g W w' :=
 (l3name_any C.ok C.pp).mono (by
  rintro e w' ⟨v,rfl,hR,hP,hF⟩
  rw [show nameT E.zs E.T s=y from hy] at hR
  have hR2:RdV (veil (hd w Q) w') v y:=RdV.less hR (fun b hb=>C.less hb)
  obtain ⟨a,c,rfl,h3⟩:=hR2
  exact ⟨a,c,rfl,⟨a,c,rfl,h3⟩,C.to hF (by rw [← hs];exact hP),hF⟩)
def Nods (E:En) (f:Nat) (ag:Nat→Array Value) (s:Ps) (l:List Nd) (s':Ps):Prop :=
 ∀(w:World) (g:Nat),E.pp w g s→Calls Tryz.prog f (ag g) w fun e w'=>∃a c,e=.returned (.slice a l.length c)∧FN (tk.lt w.heap.size) w' (.slice a l.length c) l∧E.pp w' g s'∧Fq g w w'
def NodsK (E:En) (f:Nat) (ag:Nat→Array Value) (s:Ps) (ks:List (List Nd)) (s':Ps):Prop :=
 ∀(w:World) (g:Nat),E.pp w g s→Calls Tryz.prog f (ag g) w fun e w'=>∃a c,e=.returned (.slice a ks.length c)∧FNs (tk.lt w.heap.size) w' (.slice a ks.length c) ks∧E.pp w' g s'∧Fq g w w'
def NodsB (E:En) (f:Nat) (ag:Nat→Array Value) (s:Ps) (l:List Nd) (b:Int) (s':Ps):Prop :=
 ∀(w:World) (g:Nat),E.pp w g s→Calls Tryz.prog f (ag g) w fun e w'=>∃a c,e=.returned (.tuple #[.slice a l.length c,.int .u8 b])∧FN (tk.lt w.heap.size) w' (.slice a l.length c) l∧E.pp w' g s'∧Fq g w w'
theorem Cur.call (C:Cur E w g Q W s) {f:Nat} {ag:Nat→Array Value} (hD:Nods E f ag s l s') :
  Calls Tryz.prog f (ag g) W fun e w'=>∃a c,e=.returned (.slice a l.length c)∧FN (hd w Q) w' (.slice a l.length c) l∧Cur E w g Q w' s'∧Fq g W w' :=
 (hD W g C.pp).mono (by
  rintro e w' ⟨a,c,rfl,hN,hP,hF⟩
  exact ⟨a,c,rfl,hN.less (fun b hb=>C.less hb),C.to hF hP,hF⟩)
theorem Cur.callB (C:Cur E w g Q W s) {f:Nat} {ag:Nat→Array Value} {b:Int} (hD:NodsB E f ag s l b s') :
  Calls Tryz.prog f (ag g) W fun e w'=>∃a c,e=.returned (.tuple #[.slice a l.length c,.int .u8 b])∧FN (hd w Q) w' (.slice a l.length c) l∧Cur E w g Q w' s'∧Fq g W w' :=
 (hD W g C.pp).mono (by
  rintro e w' ⟨a,c,rfl,hN,hP,hF⟩
  exact ⟨a,c,rfl,hN.less (fun b hb=>C.less hb),C.to hF hP,hF⟩)
theorem fns_less {B C:Nat→Bool} {v:Value} (h:FNs B w v ks) (hc:∀x,B x=false→C x=false):FNs C w v ks:=fns_veils h (fun x _ hx=>hc x hx)
theorem Cur.callK (C:Cur E w g Q W s) {f:Nat} {ag:Nat→Array Value} (hD:NodsK E f ag s ks s') :
  Calls Tryz.prog f (ag g) W fun e w'=>∃a c,e=.returned (.slice a ks.length c)∧FNs (hd w Q) w' (.slice a ks.length c) ks∧Cur E w g Q w' s'∧Fq g W w' :=
 (hD W g C.pp).mono (by
  rintro e w' ⟨a,c,rfl,hN,hP,hF⟩
  exact ⟨a,c,rfl,fns_less hN (fun b hb=>C.less hb),C.to hF hP,hF⟩)
theorem Cur.leaf (C:Cur E w g Q W s) (k:Int) :
  Calls Tryz.prog 32 #[.int .i64 k] W fun e w'=>∃a c,e=.returned (.slice a (tk.leaf k).length c)∧FN (hd w Q) w' (.slice a (tk.leaf k).length c) (tk.leaf k)∧Cur E w g Q w' s∧Fq g W w' :=
 (l3leaf_any W k).mono (by
  rintro e w' ⟨x,rfl,hN,hB⟩
  obtain ⟨a,c,rfl,h⟩:=hN
  have hN:FN (tk.lt W.heap.size) w' (.slice a (tk.leaf k).length c) (tk.leaf k):=⟨a,c,rfl,h⟩
  exact ⟨a,c,rfl,hN.less (fun b hb=>C.less hb),(C.bel hB).1,(C.bel hB).2⟩)
theorem fn_drop (h:FN (hd w Q) W x l):FN (tk.lt w.heap.size) W x l:=h.less (fun b h=>by simp [hd] at h;exact h.1)
theorem Cur.nodeF (C:Cur E w g Q W s) {v ut un:Value} {n:Nd} (hB:Below W.heap.size W W') (hK:FNs (hd w Q) W' v ks) (ht:RdV (veil (hd w Q) W') ut n.text) (hn:RdVV (veil (hd w Q) W') un n.names) (hs:tot ks≤900000) (hkl:ks.length≤900000) :
  Calls Tryz.prog 31 #[.agg #[.int .i64 n.kind,.int .i64 n.n,ut,un,.int .i64 n.count],v] W' fun e w'=>∃a c,e=.returned (.slice a (tk.node n ks).length c)∧FN (hd w Q) w' (.slice a (tk.node n ks).length c) (tk.node n ks)∧Cur E w g Q w' s∧Fq g W w' :=
 (l3node_any (hd w Q) W' n ut un v ks (fun b hb=>C.new (by have:=hB.size;omega)) ht hn hK (by simp only [tk.node,List.length_cons];simp only [tot] at hs;omega) (by omega)).mono (by
  rintro e w' ⟨x,rfl,h1,h2⟩
  obtain ⟨a,c,rfl,hN⟩:=h1
  have hB2:Below W.heap.size W w':=hB.trans (h2.mono hB.size)
  exact ⟨a,c,rfl,⟨a,c,rfl,hN⟩,(C.bel hB2).1,(C.bel hB2).2⟩)
theorem Cur.fnsLit (C:Cur E w g Q W s) {us:List Value} {n:Nat} (h:KR (hd w Q) W us ks) (hn:n=us.length):FNs (hd w Q) (W.alloc (.cells us.toArray 23)) (.slice (some ⟨W.heap.size,0,none⟩) n n) ks:=by
 subst hn
 refine ⟨_,_,by rw [h.1],fun i hi=>?_⟩
 obtain ⟨u,e,hf⟩:=h.2 i hi
 refine ⟨W.heap.size,0,u,rfl,?_,hf.up (up_alloc _ _ _)⟩
 rw [Nat.zero_add]
 exact cell_new (C.new (Nat.le_refl _)) (by simpa using e)
theorem bel_alloc (W:World) (o:Obj):Below W.heap.size W (W.alloc o):=(Below.refl _ _).alloc (Nat.le_refl _) _
theorem Cur.nodeL (C:Cur E w g Q W s) {us:List Value} {ut un:Value} {nd:Nd} {n:Nat} (hK:KR (hd w Q) W us ks) (hl:n=us.length) (ht:RdV (veil (hd w Q) W) ut nd.text) (hn:RdVV (veil (hd w Q) W) un nd.names) (hs:tot ks≤900000) (hkl:ks.length≤900000) :
  Calls Tryz.prog 31 #[.agg #[.int .i64 nd.kind,.int .i64 nd.n,ut,un,.int .i64 nd.count],.slice (some ⟨W.heap.size,0,none⟩) n n] (W.alloc (.cells us.toArray 23)) fun e w'=>∃a c,e=.returned (.slice a (tk.node nd ks).length c)∧FN (hd w Q) w' (.slice a (tk.node nd ks).length c) (tk.node nd ks)∧Cur E w g Q w' s∧Fq g W w' :=
 C.nodeF (bel_alloc _ _) (C.fnsLit hK hl) (RdV.up ht (up_alloc _ _ _)) (RdVV.up hn (up_alloc _ _ _)) hs hkl
theorem kids_fns {a:Option Addr} {m c:Nat} (h:Kids w Q W (.slice a m c) ks):FNs (tk.lt w.heap.size) W (.slice a m c) ks:=by
 obtain ⟨us,h1,h2,h3⟩:=h
 have hm:m=ks.length:=by
  rcases h1 with ⟨_,⟨e,e2⟩|⟨_,_,_,e3,_⟩⟩
  ·simp only [Value.slice.injEq] at e;omega
  ·simp only [Value.slice.injEq] at e3;omega
 subst hm
 exact fns_own (fun b hb=>lt_ge (h1.lt b hb).1) h1 rfl (kr_veils h3 (fun b _ hb=>by simp [hd] at hb;exact hb.1))
theorem Cur.drop (C:Cur E w g Q W s):Cur E w g no W s:=⟨C.ok,C.pp,C.fq,C.hg,fun b h=>by simp [no] at h⟩
theorem hd_no:hd w no=tk.lt w.heap.size:=by
 funext b
 simp [hd,no]
theorem Cur.nodeK (C:Cur E w g Q W s) {a:Option Addr} {m c:Nat} {ut un:Value} {n:Nd} (hK:Kids w Q W (.slice a m c) ks) (ht:RdV (veil (hd w Q) W) ut n.text) (hn:RdVV (veil (hd w Q) W) un n.names) (hs:tot ks≤900000) (hkl:ks.length≤900000) :
  Calls Tryz.prog 31 #[.agg #[.int .i64 n.kind,.int .i64 n.n,ut,un,.int .i64 n.count],.slice a m c] W fun e w'=>∃a c,e=.returned (.slice a (tk.node n ks).length c)∧FN (hd w no) w' (.slice a (tk.node n ks).length c) (tk.node n ks)∧Cur E w g no w' s∧Fq g W w' :=
 C.drop.nodeF (Below.refl _ _) (by rw [hd_no];exact kids_fns hK) (by rw [hd_no];exact RdV.less ht (fun b h=>by simp [hd] at h;exact h.1)) (by rw [hd_no];exact RdVV.less hn (fun b h=>by simp [hd] at h;exact h.1)) hs hkl
theorem Mv.fn (h:Mv w Q W Q' W') (hx:FN (hd w Q) W x l):FN (hd w Q') W' x l:=(fn_veils hx h.2).up h.1
theorem Mv.kr {us:List Value} (h:Mv w Q W Q' W') (hx:KR (hd w Q) W us ks):KR (hd w Q') W' us ks:=(kr_veils hx h.2).up h.1
theorem Mv.rv {zs:List Int} (h:Mv w Q W Q' W') (hx:RdV (veil (hd w Q) W) x zs):RdV (veil (hd w Q') W') x zs:=RdV.up (rdv_veils hx h.2) h.1
theorem Mv.rvv {zs:List (List Int)} (h:Mv w Q W Q' W') (hx:RdVV (veil (hd w Q) W) x zs):RdVV (veil (hd w Q') W') x zs:=RdVV.up (rdvv_veils hx h.2) h.1
theorem Cur.grow (C:Cur E w g Q W s) {W1:World} {row:Option Nat} {v:Value} (hb:Below W.heap.size W W1) (hg:W1.grownBy W' row) (hrow:∀b,row=some b→Q b=true) (hq:∀b,v.ownBlock=some b→b<W'.heap.size∧(Q b=true∨W.heap.size≤b)) :
  Cur E w g (qn Q v) W' s∧Mv w Q W (qn Q v) W':=by
 have hsz:=C.sz
 have h1:=C.hg
 have hs1:=hb.size
 have hs2:=hg.size
 have nq:∀b,b<W.heap.size→Q b=false→qn Q v b=false:=fun b hl h=>by
  simp only [qn,h,Bool.false_or,decide_eq_false_iff_not]
  intro e
  rcases (hq b e).2 with h'|h'
  ·rw [h] at h';cases h'
  ·omega
 have hU:∀B:Nat→Bool,(∀b,b<W.heap.size→B b=false→Q b=false)→Up B W W':=fun B hB=>⟨by omega,fun b h hl=>(hg.block b (by omega) (fun e=>by
  have h3:=hrow b e.symm
  rw [hB b hl h] at h3
  cases h3)).trans (hb.block b hl)⟩
 have hFW:∀b,b<w.heap.size→W'.heap[b]?=W.heap[b]?:=fun b hl=>(hU (fun b=>!decide (b<w.heap.size)) (fun b _ h=>by
  simp at h
  cases h':Q b with
  |false=>rfl
  |true=>have:=(C.hq b h').1;omega)).block b (by simp;exact hl) (by omega)
 have hBl:Below w.heap.size W W':=(hb.mono hsz).grown hg (by omega) (fun k e=>(C.hq k (hrow k e)).1)
 have hP:E.pp W' g s:=by
  have e1:=hFW g h1
  obtain ⟨p1,p2,p3,p4⟩:=C.pp
  exact ⟨p1.trans (hBl.mono (by omega)),p2,own_far p3 (fun b e=>by cases e;exact e1),p4⟩
 refine ⟨⟨C.ok,hP,⟨C.fq.below.trans (hBl.mono (by omega)),fun b hl e1=>(hFW b hl).trans (C.fq.keep b hl e1)⟩,C.hg,fun b h=>?_⟩,hU _ (fun b hl h=>?_),fun b hl h=>?_⟩
 ·simp only [qn,Bool.or_eq_true,decide_eq_true_eq] at h
  rcases h with h|h
  ·have:=C.hq b h;omega
  ·rcases (hq b h).2 with h'|h'
   ·have:=C.hq b h';have:=(hq b h).1;omega
   ·have:=(hq b h).1;omega
 ·simp only [hd,qn,Bool.or_eq_false_iff] at h
  exact h.2.1
 ·simp only [hd,Bool.or_eq_false_iff] at h ⊢
  exact ⟨h.1,nq b hl h.2⟩
theorem lit_row {us:List Value} {T:TypeId} (hW:w.heap.size≤W.heap.size) (hm:us.length≤1000):(W.alloc (.cells us.toArray T)).ownsRow w.heap.size T 1 (.slice (some ⟨W.heap.size,0,none⟩) us.length us.length) us.length us :=
 ⟨by omega,.inr ⟨W.heap.size,us.length,us.toArray,rfl,hW,heap_alloc_new _ _,by omega,by unfold maxLen;omega,by simp,by simp⟩⟩
theorem kr_two {B:Nat→Bool} {u v:Value} {l m:List Nd} (h:FN B W u l) (k:FN B W v m):KR B W [u,v] [l,m]:=(kr_one h).app (kr_one k)
theorem kids_nil:Kids w Q W (.slice none 0 0) []:=⟨[],⟨rfl,.inl ⟨rfl,rfl⟩⟩,fun b h=>by simp [Value.ownBlock] at h,kr_nil _ _⟩
theorem Cur.lit (C:Cur E w g Q W s) {us:List Value} {n:Nat} (h:KR (hd w Q) W us ks) (hn:n=us.length) (hm:us.length≤1000) :
  ∃Q',Cur E w g Q' (W.alloc (.cells us.toArray 23)) s∧Kids w Q' (W.alloc (.cells us.toArray 23)) (.slice (some ⟨W.heap.size,0,none⟩) n n) ks∧Mv w Q W Q' (W.alloc (.cells us.toArray 23)):=by
 subst hn
 have hl:=h.1
 obtain ⟨h1,h2⟩:=C.grow (v:=.slice (some ⟨W.heap.size,0,none⟩) us.length us.length) (bel_alloc W _) (World.grownBy.refl _ none) (fun b e=>by cases e) (fun b e=>by
  cases e
  exact ⟨by simp,.inr (Nat.le_refl _)⟩)
 refine ⟨_,h1,⟨us,?_,fun b e=>by simp [qn,e],h2.kr h⟩,h2⟩
 have:=lit_row (T:=23) C.sz hm
 rw [← hl]
 exact this
theorem Cur.append (C:Cur E w g Q W s) {W1:World} {a:Option Addr} {n c:Nat} {ls:List (List Nd)} {xs:List Value} (hK:Kids w Q W (.slice a n c) ks) (hn:n=ks.length) (hb:Below W.heap.size W W1) (hx:KR (hd w Q) W xs ls) (ao:Option Addr) (m cx:Nat) (hml:m=xs.length) (hr:0<m→∃ad,ao=some ad∧∀j u,xs[j]?=some u→W1.cell? (ad.add j)=some u) (hm:ks.length+ls.length≤100000) (ty:TypeId) :
  ∃a' c' w' Q',(Builtin.append_ #[69,69] ty #[.slice a n c,.slice ao m cx]).run Tryz.prog W1=.ok (.slice a' (n+m) c') w'∧Kids w Q' w' (.slice a' (n+m) c') (ks++ls)∧Cur E w g Q' w' s∧Mv w Q W Q' w':=by
 subst hml
 obtain ⟨us,h1,h2,h3⟩:=hK
 obtain ⟨i0,hi0,hz0,hz1,hz2⟩:=info_parts info_nodes
 have hsz:=C.sz
 have o1:W1.ownsRow w.heap.size 23 1 (.slice a n c) n us:=by
  subst hn
  exact own_far h1 (fun b e=>hb.block b (h1.lt b e).2)
 have hxl:=hx.1
 obtain ⟨a',c',w',e1,e2⟩:=run_append_row W1 69 ty 23 i0 (.slice none 0 0) 1 24 Tryz.underlying69 hi0 hz0 hz1 hz2 rfl (by omega) w.heap.size a n c us o1 ao xs.length cx xs (by omega) hr hx.one (by unfold maxLen;omega) (by omega) (by have:=hb.size;omega)
 obtain ⟨h4,h5⟩:=C.grow (v:=.slice a' (n+xs.length) c') hb e2.grow h2 (fun b e=>⟨(e2.own.lt b e).2,by
  rcases e2.lies with ⟨rfl,rfl⟩|⟨g',rfl,h|h⟩
  ·left
   cases a' with
   |none=>cases e
   |some y=>exact h2 b e
  ·cases e;exact .inl (h2 _ h)
  ·cases e;right;rw [h];exact hb.size⟩)
 exact ⟨a',c',w',_,e1,⟨us++xs,by rw [List.length_append,← hn,← hxl];exact e2.own,fun b e=>by simp [qn,e],(h5.kr h3).app (h5.kr hx)⟩,h4,h5⟩
theorem wpList_kid {ops:Array Oper} {rest:List Oper} {o:Oper} {a:Act} {K:Exit→Act→World→Prop} (hgd:o.guard=none) (sv xv:Operand)
  (ho:o.op=.call {callee:=.builtin .append,args:=#[sv,xv],argTypes:=#[69,69]})
  (C:Cur E w g Q W s) {ao:Option Addr} {n c:Nat} (u:Value) (hs:a.eval sv=.slice ao n c) (hxe:a.eval xv=.slice (some ⟨W.heap.size,0,none⟩) 1 1) (hW:W'=W.alloc (.cells #[u] 23))
  (hK:Kids w Q W (.slice ao n c) ks) (hn:n=ks.length) (hx:FN (hd w Q) W u l) (hm:ks.length≤90000)
  (h:∀a' c' w' Q',Kids w Q' w' (.slice a' (n+1) c') (ks++[l])→Cur E w g Q' w' s→Mv w Q W Q' w'→wpList Tryz.prog ops K rest (a.put o.dst (.slice a' (n+1) c')) w'):wpList Tryz.prog ops K (o::rest) a W':=by
 subst hW
 refine wpList_plain hgd fun K' hK'=>?_
 obtain ⟨a',c',w',Q',h2,h3,h4,h5⟩:=C.append hK hn (bel_alloc W (.cells #[u] 23)) (kr_one hx) (some ⟨W.heap.size,0,none⟩) 1 1 rfl (fun _=>⟨_,rfl,fun j u hu=>by
  rw [plainAt,Nat.zero_add]
  unfold World.cell?
  rw [heap_alloc_new]
  simpa using hu⟩) (by simp;omega) o.type
 unfold Oper.wp execOp
 simp only [ho,resolve,invoke,builtin,Sem.run_bind,Sem.run_pure,Result.andThen_ok,List.map_toArray,List.map_cons,List.map_nil,hs,hxe,h2]
 exact hK' _ _ (h a' c' w' Q' h3 h4 h5)
theorem wpList_kids {ops:Array Oper} {rest:List Oper} {o:Oper} {a:Act} {K:Exit→Act→World→Prop} (hgd:o.guard=none) (sv xv:Operand)
  (ho:o.op=.call {callee:=.builtin .append,args:=#[sv,xv],argTypes:=#[69,69]})
  (C:Cur E w g Q W s) {ao ao2:Option Addr} {n c c2:Nat} {ls:List (List Nd)} (hs:a.eval sv=.slice ao n c) (hxe:a.eval xv=.slice ao2 ls.length c2)
  (hK:Kids w Q W (.slice ao n c) ks) (hn:n=ks.length) (hx:FNs (hd w Q) W (.slice ao2 ls.length c2) ls) (hm:ks.length+ls.length≤100000)
  (h:∀a' c' w' Q',Kids w Q' w' (.slice a' (n+ls.length) c') (ks++ls)→Cur E w g Q' w' s→Mv w Q W Q' w'→wpList Tryz.prog ops K rest (a.put o.dst (.slice a' (n+ls.length) c')) w'):wpList Tryz.prog ops K (o::rest) a W:=by
 refine wpList_plain hgd fun K' hK'=>?_
 obtain ⟨ao3,c3,e3,hx⟩:=hx
 simp only [Value.slice.injEq] at e3
 obtain ⟨rfl,_,rfl⟩:=e3
 obtain ⟨news,hkr,hnw⟩:=FNs.news hx
 obtain ⟨a',c',w',Q',h2,h3,h4,h5⟩:=C.append hK hn (Below.refl _ _) hkr ao2 ls.length c2 hkr.1.symm hnw hm o.type
 unfold Oper.wp execOp
 simp only [ho,resolve,invoke,builtin,Sem.run_bind,Sem.run_pure,Result.andThen_ok,List.map_toArray,List.map_cons,List.map_nil,hs,hxe,h2]
 exact hK' _ _ (h a' c' w' Q' h3 h4 h5)
def msz (T:List (Int×Nat×Nat)) (s:Ps):Nat:=2*(T.length-s.at_)+(if s.bad<0 then 1 else 0)
def msW (T:List (Int×Nat×Nat)) (g:Nat) (w:World):Nat:=2*(T.length-(intOf ((w.cell? ⟨g,2,none⟩).getD (.int .i64 0))).toNat)+(if intOf ((w.cell? ⟨g,3,none⟩).getD (.int .i64 0))<0 then 1 else 0)
theorem Cur.ms (C:Cur E w g Q W s):msW E.T g W=msz E.T s:=by
 have c2:W.cell? ⟨g,2,none⟩=some (.int .i64 (s.at_:Int)):=C.pp.2.2.1.at (j:=2) (by omega)
 have c3:W.cell? ⟨g,3,none⟩=some (.int .i64 s.bad):=C.pp.2.2.1.at (j:=3) (by omega)
 unfold msW msz
 rw [c2,c3]
 rfl
theorem Cur.c2 (C:Cur E w g Q W s):W.cell? ⟨g,2,none⟩=some (.int .i64 (s.at_:Int)):=C.pp.2.2.1.at (j:=2) (by omega)
theorem Cur.c3 (C:Cur E w g Q W s):W.cell? ⟨g,3,none⟩=some (.int .i64 s.bad):=C.pp.2.2.1.at (j:=3) (by omega)
theorem Cur.c4 (C:Cur E w g Q W s):W.cell? ⟨g,4,none⟩=some (.bool s.long):=C.pp.2.2.1.at (j:=4) (by omega)
theorem Cur.c5 (C:Cur E w g Q W s):W.cell? ⟨g,5,none⟩=some (.bool s.loop):=C.pp.2.2.1.at (j:=5) (by omega)
theorem Cur.free (C:Cur E w g Q W s) (j:Nat):W.frozen? ⟨g,j,none⟩=false:=C.pp.2.2.1.free j
theorem Cur.le (C:Cur E w g Q W s):s.at_≤E.T.length:=C.pp.2.2.2
theorem Cur.setStep (C:Cur E w g Q W s) (h:s.at_<E.T.length):Cur E w g Q (W.setCell ⟨g,2,none⟩ (.int .i64 ((s.at_:Int)+1))) (step s)∧Fq g W (W.setCell ⟨g,2,none⟩ (.int .i64 ((s.at_:Int)+1))) :=
 ⟨C.to (Fq.set _ _) (pp_step C.pp h),Fq.set _ _⟩
theorem Cur.setLong (C:Cur E w g Q W s) (b:Bool):Cur E w g Q (W.setCell ⟨g,4,none⟩ (.bool b)) {s with long:=b}∧Fq g W (W.setCell ⟨g,4,none⟩ (.bool b)) :=
 ⟨C.to (Fq.set _ _) (pp_long C.pp b),Fq.set _ _⟩
theorem Cur.setLoop (C:Cur E w g Q W s) (b:Bool):Cur E w g Q (W.setCell ⟨g,5,none⟩ (.bool b)) {s with loop:=b}∧Fq g W (W.setCell ⟨g,5,none⟩ (.bool b)) :=
 ⟨C.to (Fq.set _ _) ⟨C.pp.1.setCell (p:=⟨g,5,none⟩) C.pp.2.1 _,C.pp.2.1,C.pp.2.2.1.set 5 _,C.pp.2.2.2⟩,Fq.set _ _⟩
theorem Cur.many (C:Cur E w g Q W s):E.T.length≤6000:=C.ok.many
theorem Cur.done (C:Cur E w g Q W s) {a:Option Addr} {n c:Nat} (h:FN (hd w Q) W (.slice a n c) l) (hn:n=l.length):∃a' c',Ending.returned (.slice a n c)=.returned (.slice a' l.length c')∧FN (tk.lt w.heap.size) W (.slice a' l.length c') l∧E.pp W g s∧Fq g w W:=by
 subst hn
 exact ⟨a,c,rfl,fn_drop h,C.pp,C.fq⟩
end
def ag1 (g:Nat):Array Value:=#[.pointer (some ⟨g,0,none⟩)]
def ag2 (n:Int) (g:Nat):Array Value:=#[.pointer (some ⟨g,0,none⟩),.int .i64 n]
def Rs (E:En) (f tag:Nat) (n:Int) (s:Ps) (ks:List (List Nd)) (c:Int) (s':Ps):Prop :=
 pz E.zs E.T f tag n [] s=(ks,c,s')∧s.at_≤s'.at_∧(0≤s.bad→0≤s'.bad)∧tot ks≤20*(s'.at_-s.at_)+10
theorem rs_of {E:En} {f tag:Nat} {n:Int} {s:Ps} {ks:List (List Nd)} {c:Int} {s':Ps} (ht:tag≤17) (hn:need E.T tag s≤f) (e:pz E.zs E.T f tag n [] s=(ks,c,s')) (hd:dD tag≤10):Rs E f tag n s ks c s':=by
 have G:=pz_gd E.zs E.T f tag n [] s ht hn
 rw [e] at G
 obtain ⟨g1,g2,g3,_⟩:=G
 refine ⟨e,g1,g2,?_⟩
 have:tot []=0:=rfl
 dsimp only at g1 g2 g3
 omega
structure Al (E:En) (f:Nat):Prop where
 bin:∀(n:Int) (s:Ps),1≤n→n≤7→need E.T 0 s≤f→∃l c s',Rs E f 0 n s [l] c s'∧Nods E 57 (ag2 n) s l s'
 una:∀(s:Ps),need E.T 2 s≤f→∃l c s',Rs E f 2 0 s [l] c s'∧Nods E 91 ag1 s l s'
 sim:∀(s:Ps),need E.T 3 s≤f→∃l c s',Rs E f 3 0 s [l] c s'∧Nods E 111 ag1 s l s'
 suf:∀(s:Ps),need E.T 4 s≤f→∃l c s',Rs E f 4 0 s [l] c s'∧NodsB E 93 ag1 s l c s'
 exs:∀(s:Ps),need E.T 6 s≤f→∃ks c s',Rs E f 6 0 s ks c s'∧ks.length≤s'.at_+1∧NodsK E 30 ag1 s ks s'
 fun_:∀(s:Ps),need E.T 8 s≤f→∃l c s',Rs E f 8 0 s [l] c s'∧Nods E 59 ag1 s l s'
 tab:∀(s:Ps),need E.T 9 s≤f→∃l c s',Rs E f 9 0 s [l] c s'∧Nods E 123 ag1 s l s'
 blk:∀(s:Ps),need E.T 11 s≤f→∃l c s',Rs E f 11 0 s [l] c s'∧Nods E 13 ag1 s l s'
 sta:∀(s:Ps),need E.T 13 s≤f→∃l c s',Rs E f 13 0 s [l] c s'∧Nods E 33 ag1 s l s'
 iff_:∀(s:Ps),need E.T 14 s≤f→∃l c s',Rs E f 14 0 s [l] c s'∧Nods E 63 ag1 s l s'
 oth:∀(s:Ps),need E.T 16 s≤f→∃l c s',Rs E f 16 0 s [l] c s'∧Nods E 64 ag1 s l s'
theorem bool_no {b:Bool} (h:¬b=true):b=false:=by cases b <;> simp_all
theorem tot_le {E:En} {f tag:Nat} {n:Int} {s s':Ps} {ks:List (List Nd)} {c:Int} (h:Rs E f tag n s ks c s') {w W:World} {g:Nat} {Q:Nat→Bool} (C:Cur E w g Q W s'):tot ks≤200000:=by
 have h1:=C.le
 have h2:=C.many
 have h3:=h.2.2.2
 omega
theorem una_next {E:En} (ok:E.ok) {f:Nat} (A:Al E f) (s:Ps) (hn0:need E.T 2 s≤f+1):∃l c s',Rs E (f+1) 2 0 s [l] c s'∧Nods E 91 ag1 s l s':=by
 have hn:(0≤s.bad∧4≤f+1)∨(s.bad<0∧20*(E.T.length-s.at_)+5≤f+1):=nx hn0 rfl rfl
 by_cases h1:isP E.zs E.T s {data:=#[110,111,116]}=true
 ·skip
  obtain ⟨s1,es1⟩:∃x,got E.zs E.T s {data:=#[110,111,116]}=x:=⟨_,rfl⟩
  have gs1:s1.at_=s.at_+1∧s1.bad=s.bad:=by rw [← es1];exact got_yes h1
  have bs1:=is_bad h1
  obtain ⟨ls2,cs2,s2,Rs2,Ds2⟩:=A.una s1 (nd 2 4 5 rfl rfl (by omega))
  have gs2:s1.at_≤s2.at_∧(0≤s1.bad→0≤s2.bad):=⟨Rs2.2.1,Rs2.2.2.1⟩
  refine ⟨tk.node (bare 24) [ls2],0,s2,rs_of (by decide) hn0 (by rw [pz_2];unfold pB2;dsimp only;simp only [if_pos h1,es1,Rs2.1]) (by decide),fun w g hP=>?_⟩
  have C0:Hid (Cur E w g no w s):=Cur.start ok hP
  have HRs2:Hid _:=Rs2
  have HDs2:Hid _:=Ds2
  clear hP hn hn0 Rs2 Ds2 gs1 bs1 gs2
  unfold ag1
  go_enter Tryz.func91,Tryz.ntmps91
  go_wp2_with (first
   |(go_at_call 31;refine (C2.out.nodeL (nd:=bare 24) (kr_one X_2.out) rfl (rdV_nil _) (rdVV_nil _) (by have:=tot_le HRs2.out C2.out;omega) (by simp)).mono ?_;rintro e w3 ⟨a3,c3,rfl,hX,hC,hF⟩;have C3:Hid _:=hC;have Y_3:Hid _:=hX;clear hC hF hX)
   |(go_at_call 91;refine (C1.out.call HDs2.out).mono ?_;rintro e w2 ⟨a2,c2,rfl,hX,hC,hF⟩;have C2:Hid _:=hC;have X_2:Hid _:=hX;clear hC hF hX)
   |(go_at_call 28;refine (C0.out.got h1 es1).mono ?_;rintro e w1 ⟨rfl,hC,hF⟩;have C1:Hid _:=hC;clear hC hF))
  go_returns
  exact C3.out.done Y_3.out rfl
 ·skip
  by_cases h2:isP E.zs E.T s {data:=#[45]}=true
  ·skip
   obtain ⟨s1,es1⟩:∃x,got E.zs E.T s {data:=#[45]}=x:=⟨_,rfl⟩
   have gs1:s1.at_=s.at_+1∧s1.bad=s.bad:=by rw [← es1];exact got_yes h2
   have bs1:=is_bad h2
   obtain ⟨ls2,cs2,s2,Rs2,Ds2⟩:=A.una s1 (nd 2 4 5 rfl rfl (by omega))
   have gs2:s1.at_≤s2.at_∧(0≤s1.bad→0≤s2.bad):=⟨Rs2.2.1,Rs2.2.2.1⟩
   refine ⟨tk.node (bare 25) [ls2],0,s2,rs_of (by decide) hn0 (by rw [pz_2];unfold pB2;dsimp only;simp only [if_neg h1,if_pos h2,es1,Rs2.1]) (by decide),fun w g hP=>?_⟩
   have C0:Hid (Cur E w g no w s):=Cur.start ok hP
   have HRs2:Hid _:=Rs2
   have HDs2:Hid _:=Ds2
   clear hP hn hn0 Rs2 Ds2 gs1 bs1 gs2
   unfold ag1
   go_enter Tryz.func91,Tryz.ntmps91
   go_wp2_with (first
    |(go_at_call 31;refine (C3.out.nodeL (nd:=bare 25) (kr_one X_3.out) rfl (rdV_nil _) (rdVV_nil _) (by have:=tot_le HRs2.out C3.out;omega) (by simp)).mono ?_;rintro e w4 ⟨a4,c4,rfl,hX,hC,hF⟩;have C4:Hid _:=hC;have Y_4:Hid _:=hX;clear hC hF hX)
    |(go_at_call 91;refine (C2.out.call HDs2.out).mono ?_;rintro e w3 ⟨a3,c3,rfl,hX,hC,hF⟩;have C3:Hid _:=hC;have X_3:Hid _:=hX;clear hC hF hX)
    |(go_at_call 28;refine (C1.out.got h2 es1).mono ?_;rintro e w2 ⟨rfl,hC,hF⟩;have C2:Hid _:=hC;clear hC hF)
    |(go_at_call 28;refine (C0.out.got (bool_no h1) (got_no h1)).mono ?_;rintro e w1 ⟨rfl,hC,hF⟩;have C1:Hid _:=hC;clear hC hF))
   go_returns
   exact C4.out.done Y_4.out rfl
  ·skip
   obtain ⟨ls1,cs1,s1,Rs1,Ds1⟩:=A.sim s (nd 3 3 4 rfl rfl (by omega))
   have gs1:s.at_≤s1.at_∧(0≤s.bad→0≤s1.bad):=⟨Rs1.2.1,Rs1.2.2.1⟩
   refine ⟨ls1,cs1,s1,rs_of (by decide) hn0 (by rw [pz_2];unfold pB2;dsimp only;simp only [if_neg h1,if_neg h2,Rs1.1]) (by decide),fun w g hP=>?_⟩
   have C0:Hid (Cur E w g no w s):=Cur.start ok hP
   have HRs1:Hid _:=Rs1
   have HDs1:Hid _:=Ds1
   clear hP hn hn0 Rs1 Ds1 gs1
   unfold ag1
   go_enter Tryz.func91,Tryz.ntmps91
   go_wp2_with (first
    |(go_at_call 111;refine (C2.out.call HDs1.out).mono ?_;rintro e w3 ⟨a3,c3,rfl,hX,hC,hF⟩;have C3:Hid _:=hC;have X_3:Hid _:=hX;clear hC hF hX)
    |(go_at_call 28;refine (C1.out.got (bool_no h2) (got_no h2)).mono ?_;rintro e w2 ⟨rfl,hC,hF⟩;have C2:Hid _:=hC;clear hC hF)
    |(go_at_call 28;refine (C0.out.got (bool_no h1) (got_no h1)).mono ?_;rintro e w1 ⟨rfl,hC,hF⟩;have C1:Hid _:=hC;clear hC hF))
   go_returns
   exact C3.out.done X_3.out rfl
end ps
end Go.Proofs.YtkmiagkehcflnaaGreatDoor
