import Derived.Deep.QuietTactic
import Derived.Deep.MidRow
import Derived.Test.YtkmiagkehcflnaaGreatDoorMTrNew
import Derived.Test.YtkmiagkehcflnaaGreatDoorMIpStep
set_option linter.unusedVariables false
set_option linter.unusedSimpArgs false
set_option maxRecDepth 100000
set_option maxHeartbeats 8000000
namespace Go.Proofs.YtkmiagkehcflnaaGreatDoor
namespace ip
open Go.RowKit bts nod lex tk vt
open ps (En Ps isP kindP now wrong step want got nameT nameS textOf over up_fq own_far bel_alloc)
def hr (w:World) (v:Value):Nat→Bool:=fun b=>tk.lt w.heap.size b || decide (v.ownBlock=some b)
abbrev nil:Value:=.slice none 0 0
structure Cz (E:En) (w:World) (g:Nat) (un:Value) (nms:List (List Int)) (v:Value) (m:Nat) (us:List Value) (ks:List (List Nd)) (W:World) (s:Ps):Prop where
 ir:Ir E
 ip:Ip E W g s
 fq:Fq g w W
 hg:g<w.heap.size
 row:W.ownsRow w.heap.size 49 1 v m (us.take m)
 mid:∃M,w.heap.size≤M∧OwTT (veil (hr w v) W) w.heap.size M un nms∧Kv (hr w v) W M W.heap.size us ks
section
variable {E:En} {w W W':World} {g m:Nat} {un v x:Value} {nms:List (List Int)} {us xs:List Value} {ks ls:List (List Nd)} {s s':Ps} {l:List Nd}
theorem owTT_nil (W:World) (B M:Nat):OwTT W B M nil []:=⟨[],World.ownsRow_nil _ _ _ _,(fun b h=>by cases h),(fun i hi=>absurd hi (by simp)),(fun i j u u' b _ h=>by simp at h)⟩
theorem Cz.start (hI:Ir E) (h:Ip E w g s):Cz E w g nil [] nil 0 [] [] w s :=
 ⟨hI,h,.refl _ _,h.lt,World.ownsRow_nil _ _ _ _,w.heap.size,Nat.le_refl _,owTT_nil _ _ _,rfl,Nat.le_refl _⟩
theorem Cz.sz (C:Cz E w g un nms v m us ks W s):w.heap.size≤W.heap.size:=C.fq.below.size
theorem Cz.hid (C:Cz E w g un nms v m us ks W s):hr w v g=true:=by have:=C.hg;simp [hr,tk.lt,this]
theorem Cz.lk (C:Cz E w g un nms v m us ks W s) (hF:Fq g W W'):Lk (veil (hr w v) W) (veil (hr w v) W'):=lk_up (up_fq hF C.hid)
theorem Cz.own (C:Cz E w g un nms v m us ks W s) (hF:Fq g W W'):W'.ownsRow w.heap.size 49 1 v m (us.take m):=own_far C.row (fun b e=>by
 have hb:=C.row.lt b e
 have:=C.hg
 exact hF.keep b hb.2 (by omega))
theorem Cz.to (C:Cz E w g un nms v m us ks W s) (hF:Fq g W W') (hP:Ip E W' g s'):Cz E w g un nms v m us ks W' s':=by
 obtain ⟨M,h1,h2,h3⟩:=C.mid
 exact ⟨C.ir,hP,C.fq.trans hF,C.hg,C.own hF,M,h1,h2.lk (C.lk hF),(h3.lk (C.lk hF)).wide (Nat.le_refl _) hF.below.size⟩
theorem Cz.new (C:Cz E w g un nms v m us ks W s) {b:Nat} (hb:tk.lt W.heap.size b=false):hr w v b=false:=by
 have h1:=C.sz
 simp only [tk.lt,decide_eq_false_iff_not] at hb
 simp only [hr,tk.lt,Bool.or_eq_false_iff,decide_eq_false_iff_not]
 refine ⟨by omega,fun e=>?_⟩
 have:=(C.row.lt b e).2
 omega
theorem Cz.le (C:Cz E w g un nms v m us ks W s):m≤us.length:=by
 have:=C.row.1
 rw [List.length_take] at this
 omega
theorem Cz.len (C:Cz E w g un nms v m us ks W s):us.length=ks.length:=by
 obtain ⟨M,_,_,h⟩:=C.mid
 exact Chain.len h
theorem Cz.pushes (C:Cz E w g un nms v m us ks W s) (hF:Fq g W W') (hP:Ip E W' g s') (hn:Kv (tk.lt W.heap.size) W' W.heap.size W'.heap.size xs ls):Cz E w g un nms v m (us++xs) (ks++ls) W' s':=by
 obtain ⟨M,h1,h2,h3⟩:=C.mid
 refine ⟨C.ir,hP,C.fq.trans hF,C.hg,?_,M,h1,h2.lk (C.lk hF),(h3.lk (C.lk hF)).app (hn.lk (lk_veils fun b _ h=>C.new h))⟩
 rw [List.take_append_of_le_length C.le]
 exact C.own hF
theorem Cz.push (C:Cz E w g un nms v m us ks W s) (hF:Fq g W W') (hP:Ip E W' g s') (hn:Nv (tk.lt W.heap.size) W' W.heap.size W'.heap.size x l):Cz E w g un nms v m (us++[x]) (ks++[l]) W' s':=C.pushes hF hP hn.kv
theorem Cz.bel (C:Cz E w g un nms v m us ks W s) (hB:Below W.heap.size W W'):Cz E w g un nms v m us ks W' s∧Fq g W W' :=
 ⟨C.to (.of (Nat.le_of_lt C.ip.lt) hB) (C.ip.keep hB),.of (Nat.le_of_lt C.ip.lt) hB⟩
theorem Cz.ret (C:Cz E w g un nms v m [x] [l] W s):Nv (tk.lt w.heap.size) W w.heap.size W.heap.size x l:=by
 obtain ⟨M,h1,_,M',k,r,e,h3,h4,h5⟩:=C.mid
 simp only [List.cons.injEq] at e
 obtain ⟨rfl,rfl⟩:=e
 have h6:=h5.le
 exact (h4.lk (lk_veils fun b _ h=>by simp [hr] at h;exact h.1)).wide h1 h6
theorem nv_new {V:Nat→Bool} {d:Nd} {gg:Nat} {ao:Option Addr} {cap B M F:Nat} {ut:Value} (hk:0≤d.kind∧d.kind≤26∧-9223372036854775808≤d.n∧d.n≤9223372036854775807) (hl:ks.length≤cap∧cap≤9223372036854775807∧ks.length≤1048576)
  (hN:NodeAt (veil V W) gg ⟨d.kind,d.n,d.text,d.names,ks.length⟩ ut un (.slice ao ks.length cap)) (hB:B≤M) (ht:OwT (veil V W) B M ut d.text) (hn:OwTT (veil V W) B M un d.names) (hs:d.text.length+sizeSS d.names≤1048576)
  (hc:∀k u,us[k]?=some u→∃b off,ao=some ⟨b,off,none⟩∧(veil V W).cell? ⟨b,off+k,none⟩=some u) (hK:Kv V W M F us ks):Nv V W B F (.iface (ty d.kind) (.pointer (some ⟨gg,0,none⟩))) (tk.node d ks):=by
 obtain ⟨D,hK⟩:=hK.floor
 exact ⟨D+1,d,ks,us,gg,ao,cap,ut,un,M,rfl,hk,rfl,⟨hl.1,hl.2.1,hl.2.2,hK.len⟩,hN,hB,ht,hn,hs,hc,hK⟩
theorem node_at {V:Nat→Bool} {w3:World} {kd nn:Int} {ut un pv:Value} {T:TypeId} {d:Nd} (e:W=w3.alloc (.cells #[.int .i64 kd,.int .i64 nn,ut,un,.int .i64 d.count,pv] T)) (hV:V w3.heap.size=false) (h0:d.kind=kd) (h1:d.n=nn):NodeAt (veil V W) w3.heap.size d ut un pv:=by
 subst e h0 h1
 exact ⟨cell_new hV rfl,cell_new hV rfl,cell_new hV rfl,cell_new hV rfl,cell_new hV rfl,cell_new hV rfl⟩
theorem OwT.slice {B M:Nat} {zs:List Int} {u:Value} (h:OwT W B M u zs):∃a c,u=.slice a zs.length c:=by
 rcases h.1.2 with ⟨rfl,e⟩|⟨gg,cap,_,rfl,_⟩
 ·exact ⟨none,0,by rw [e]⟩
 ·exact ⟨_,_,rfl⟩
theorem OwTT.slice {B M:Nat} {l:List (List Int)} {u:Value} (h:OwTT W B M u l):∃a c,u=.slice a l.length c:=by
 obtain ⟨_,h,_⟩:=h
 rcases h.2 with ⟨rfl,e⟩|⟨gg,cap,_,rfl,_⟩
 ·exact ⟨none,0,by rw [e]⟩
 ·exact ⟨_,_,rfl⟩
theorem owT_nil (W:World) (B M:Nat):OwT W B M nil []:=⟨World.ownsRow_nil _ _ _ _,(fun b h=>by cases h),(fun i=>by simp)⟩
theorem new3 (W1:World) (o1 o2 o3:Obj):Below W1.heap.size W1 (((W1.alloc o1).alloc o2).alloc o3):=by
 have h1:=bel_alloc W1 o1
 have h2:=h1.alloc h1.size o2
 exact h2.alloc h2.size o3
theorem Cz.fold (C:Cz E w g un nms v m us ks W s) {W1:World} (hB:Below W.heap.size W W1) {ao:Option Addr} {n cap:Nat} (hn:n=ks.length) (hcap:n≤cap∧cap≤9223372036854775807∧n≤1048576)
  (hc:∀k u,us[k]?=some u→∃b off,ao=some ⟨b,off,none⟩∧W1.cell? ⟨b,off+k,none⟩=some u∧w.heap.size≤b) (d:Nd) (hk:0≤d.kind∧d.kind≤26∧-9223372036854775808≤d.n∧d.n≤9223372036854775807) (ht:d.text=[]) (hm:d.names=nms) (hsz:sizeSS nms≤1048576) :
  Calls Tryz.prog 84 #[.agg #[.int .i64 d.kind,.int .i64 d.n,nil,un,.int .i64 0],.slice ao n cap] W1 fun e w'=>∃T gg,e=.returned (.iface T (.pointer (some ⟨gg,0,none⟩)))∧Cz E w g nil [] nil 0 [.iface T (.pointer (some ⟨gg,0,none⟩))] [tk.node d ks] w' s∧Fq g W w':=by
 obtain ⟨M,h1,h2,h3⟩:=C.mid
 subst hn hm
 obtain ⟨an,cn,rfl⟩:=h2.slice
 refine (newNode_any hk.1 hk.2.1 W1 d.n 0 none an 0 0 d.names.length cn ao ks.length cap hcap.2.2).mono ?_
 rintro e w' ⟨rfl,o1,o2,T,e⟩
 have hB3:Below W1.heap.size W1 w':=by rw [e];exact new3 _ _ _ _
 have hB4:Below W.heap.size W w':=hB.trans (hB3.mono hB.size)
 have hF:Fq g W w':=.of (Nat.le_of_lt C.ip.lt) hB4
 have hs1:=C.sz
 have hs2:=hB.size
 have hL:Lk (veil (hr w v) W) (veil (tk.lt w.heap.size) w'):=⟨fun b o h=>(lk_veils (w:=w') (V:=hr w v) (fun b _ h=>by simp [hr] at h;exact h.1)).1 b o ((C.lk hF).1 b o h),fun a u h=>(lk_veils (w:=w') (V:=hr w v) (fun b _ h=>by simp [hr] at h;exact h.1)).2 a u ((C.lk hF).2 a u h)⟩
 have e3:((W1.alloc o1).alloc o2).heap.size=W1.heap.size+1+1:=by rw [World.size_alloc,World.size_alloc]
 have hN:Nv (tk.lt w.heap.size) w' w.heap.size w'.heap.size (.iface (ty d.kind) (.pointer (some ⟨W1.heap.size+1+1,0,none⟩))) (tk.node d ks):=by
  refine nv_new (ut:=nil) (M:=M) (ao:=ao) hk ⟨hcap.1,hcap.2.1,hcap.2.2⟩ ?_ h1 (by rw [ht];exact owT_nil _ _ _) (h2.lk hL) (by rw [ht];simpa using hsz) (fun k u hu=>?_) ((h3.lk hL).wide (Nat.le_refl _) hB4.size)
  ·rw [← e3]
   exact node_at e (tk.lt_ge (by omega)) rfl rfl
  ·obtain ⟨b,off,e1,e2,e4⟩:=hc k u hu
   exact ⟨b,off,e1,cell_veil ((hB3.cell (p:=⟨b,off+k,none⟩) (World.block_lt_of_cell? _ _ e2)).trans e2) (tk.lt_ge e4)⟩
 refine ⟨_,_,rfl,⟨C.ir,C.ip.keep hB4,C.fq.trans hF,C.hg,World.ownsRow_nil _ _ _ _,w.heap.size,Nat.le_refl _,owTT_nil _ _ _,?_⟩,hF⟩
 exact Nv.kv (hN.lk (lk_veils fun b _ h=>by simp [hr,h,Value.ownBlock]))
end
end ip
namespace ip
open Go.RowKit bts nod lex tk vt
open ps (En Ps isP kindP now wrong want got nameT nameS textOf over up_fq own_far bel_alloc pz need need_or cOk)
def Pn (E:En) (r:List (List Nd)×Int×Ps) (g:Nat) (w:World):Ending→World→Prop :=
 Px r.2.2 g w fun v w'=>∃l,r.1=[l]∧Nv (tk.lt w.heap.size) w' w.heap.size w'.heap.size v l∧Ip E w' g r.2.2
def Nod (E:En) (f:Nat) (ag:Nat→Array Value) (s:Ps) (r:List (List Nd)×Int×Ps):Prop :=
 ∀(w:World) (g:Nat),Ip E w g s→Calls Tryz.prog f (ag g) w (Pn E r g w)
def ag1 (g:Nat):Array Value:=#[.pointer (some ⟨g,0,none⟩)]
def ag2 (n:Int) (g:Nat):Array Value:=#[.pointer (some ⟨g,0,none⟩),.int .i64 n]
section
variable {E:En} {w W W':World} {g m:Nat} {un v x:Value} {nms:List (List Int)} {us xs:List Value} {ks ls:List (List Nd)} {s s':Ps} {l:List Nd} {r:List (List Nd)×Int×Ps}
theorem Cz.accepts (C:Cz E w g un nms v m us ks W s) {t:ByteArray} (ht:isLit t=true) :
  Calls Tryz.prog 83 #[.pointer (some ⟨g,0,none⟩),.string t] W fun e w'=>(isP E.zs E.T s t=true∧(got E.zs E.T s t).at_=s.at_+1∧e=.returned (.bool true)∧Cz E w g un nms v m us ks w' (got E.zs E.T s t))∨(isP E.zs E.T s t=false∧e=.returned (.bool false)∧Cz E w g un nms v m us ks w' s) :=
 (accepts_any C.ir C.ip (lit_mem ht)).mono (by
  rintro e w' ⟨rfl,hP,hF⟩
  cases h:isP E.zs E.T s t
  ·rw [ps.got_no (by rw [h];decide)] at hP
   exact .inr ⟨rfl,rfl,C.to hF hP⟩
  ·exact .inl ⟨rfl,(ps.got_yes h).1,rfl,C.to hF hP⟩)
theorem Cz.sees (C:Cz E w g un nms v m us ks W s) {t:ByteArray} (ht:isLit t=true) :
  Calls Tryz.prog 81 #[.pointer (some ⟨g,0,none⟩),.string t] W fun e w'=>(isP E.zs E.T s t=true∧e=.returned (.bool true)∧Cz E w g un nms v m us ks w' s)∨(isP E.zs E.T s t=false∧e=.returned (.bool false)∧Cz E w g un nms v m us ks w' s) :=
 (sees_any C.ir C.ip (lit_mem ht)).mono (by
  rintro e w' ⟨rfl,hB⟩
  cases h:isP E.zs E.T s t
  ·exact .inr ⟨rfl,rfl,(C.bel hB).1⟩
  ·exact .inl ⟨rfl,rfl,(C.bel hB).1⟩)
theorem Cz.expect (C:Cz E w g un nms v m us ks W s) {t:ByteArray} (ht:isLit t=true) :
  Calls Tryz.prog 106 #[.pointer (some ⟨g,0,none⟩),.string t] W fun e w'=>((want E.zs E.T s t).bad<0∧(want E.zs E.T s t).at_=s.at_+1∧(∃u,e=.returned u)∧Cz E w g un nms v m us ks w' (want E.zs E.T s t))∨(0≤(want E.zs E.T s t).bad∧e=.panicked (flt (want E.zs E.T s t).bad)∧Fq g w w') :=
 (expect_any C.ir C.ip (lit_mem ht)).mono (by
  rintro e w' ⟨hF,⟨hb,u,rfl,hP⟩|⟨hb,rfl⟩⟩
  ·refine .inl ⟨hb,?_,⟨u,rfl⟩,C.to hF hP⟩
   rcases ps.want_f E.zs E.T s t with ⟨h,_⟩|⟨_,h⟩
   ·exact h
   ·omega
  ·exact .inr ⟨hb,rfl,C.fq.trans hF⟩)
theorem Cz.fail (C:Cz E w g un nms v m us ks W s) :
  Calls Tryz.prog 43 #[.pointer (some ⟨g,0,none⟩)] W fun e w'=>e=.panicked (flt (wrong E.zs E.T s).bad)∧Fq g w w' :=
 (fail_any C.ir C.ip).mono (by
  rintro e w' ⟨rfl,k,rfl⟩
  exact ⟨rfl,C.fq.drewN k⟩)
theorem Cz.call (C:Cz E w g un nms v m us ks W s) {f:Nat} {ag:Nat→Array Value} (hD:Nod E f ag s r) (hat:s.at_≤r.2.2.at_) :
  Calls Tryz.prog f (ag g) W fun e w'=>(r.2.2.bad<0∧s.at_≤r.2.2.at_∧∃T gg l,e=.returned (.iface T (.pointer (some ⟨gg,0,none⟩)))∧r.1=[l]∧Cz E w g un nms v m (us++[.iface T (.pointer (some ⟨gg,0,none⟩))]) (ks++[l]) w' r.2.2)∨(0≤r.2.2.bad∧e=.panicked (flt r.2.2.bad)∧Fq g w w') :=
 (hD W g C.ip).mono (by
  rintro e w' ⟨hF,⟨hb,u,rfl,l,h1,h2,h3⟩|⟨hb,rfl⟩⟩
  ·obtain ⟨T,gg,rfl⟩:=h2.isI
   exact .inl ⟨hb,hat,T,gg,l,rfl,h1,C.push hF h3 h2⟩
  ·exact .inr ⟨hb,rfl,C.fq.trans hF⟩)
theorem Cz.cal (C:Cz E w g un nms v m us ks W s) {f fn tag:Nat} {n:Int} {ag:Nat→Array Value} (ht:tag≤17) (hD:need E.T tag s≤f→Nod E fn ag s (pz E.zs E.T f tag n [] s)) (hn:need E.T tag s≤f) :
  Calls Tryz.prog fn (ag g) W fun e w'=>((pz E.zs E.T f tag n [] s).2.2.bad<0∧s.at_≤(pz E.zs E.T f tag n [] s).2.2.at_∧∃T gg l,e=.returned (.iface T (.pointer (some ⟨gg,0,none⟩)))∧(pz E.zs E.T f tag n [] s).1=[l]∧Cz E w g un nms v m (us++[.iface T (.pointer (some ⟨gg,0,none⟩))]) (ks++[l]) w' (pz E.zs E.T f tag n [] s).2.2)∨(0≤(pz E.zs E.T f tag n [] s).2.2.bad∧e=.panicked (flt (pz E.zs E.T f tag n [] s).2.2.bad)∧Fq g w w') :=
 C.call (hD hn) (ps.gd_at (ps.pz_gd E.zs E.T f tag n [] s ht hn)).1
theorem Cz.done (C:Cz E w g un nms v m [x] [l] W s) (h1:r.1=[l]) (h2:r.2.2=s):Pn E r g w (.returned x) W :=
 ⟨C.fq,.inl ⟨by rw [h2];exact C.ip.2.2.2.2,x,rfl,l,h1,C.ret,by rw [h2];exact C.ip⟩⟩
theorem dead {b:Int} (hF:Fq g w W) (hb:0≤b) (h:r.2.2.bad=b):Pn E r g w (.panicked (flt b)) W:=⟨hF,.inr ⟨by omega,by rw [h]⟩⟩
theorem Cz.lit (C:Cz E w g un nms v m us ks W s) {n:Nat} {kd nn:Int} (hn:us.length=n) (hm:n≤1048576) (hk:0≤kd∧kd≤26) (hv:-9223372036854775808≤nn∧nn≤9223372036854775807) (hsz:sizeSS nms≤1048576) :
  Calls Tryz.prog 84 #[.agg #[.int .i64 kd,.int .i64 nn,nil,un,.int .i64 0],.slice (some ⟨W.heap.size,0,none⟩) n n] (W.alloc (.cells us.toArray 49)) fun e w'=>∃T gg,e=.returned (.iface T (.pointer (some ⟨gg,0,none⟩)))∧Cz E w g nil [] nil 0 [.iface T (.pointer (some ⟨gg,0,none⟩))] [tk.node ⟨kd,nn,[],nms,0⟩ ks] w' s∧Fq g W w' :=
 C.fold (bel_alloc _ _) (by rw [← hn,C.len]) ⟨Nat.le_refl _,by omega,hm⟩ (fun k u hu=>⟨W.heap.size,0,rfl,by
  rw [Nat.zero_add]
  unfold World.cell?
  rw [heap_alloc_new]
  simpa using hu,C.sz⟩) ⟨kd,nn,[],nms,0⟩ ⟨hk.1,hk.2,hv⟩ rfl rfl hsz
theorem Cz.bare (C:Cz E w g un nms v m [] [] W s) {kd nn:Int} (hk:0≤kd∧kd≤26) (hv:-9223372036854775808≤nn∧nn≤9223372036854775807) (hsz:sizeSS nms≤1048576) :
  Calls Tryz.prog 84 #[.agg #[.int .i64 kd,.int .i64 nn,nil,un,.int .i64 0],nil] W fun e w'=>∃T gg,e=.returned (.iface T (.pointer (some ⟨gg,0,none⟩)))∧Cz E w g nil [] nil 0 [.iface T (.pointer (some ⟨gg,0,none⟩))] [tk.node ⟨kd,nn,[],nms,0⟩ []] w' s∧Fq g W w' :=
 C.fold (Below.refl _ _) rfl ⟨Nat.le_refl _,by decide,by decide⟩ (fun k u hu=>by simp at hu) ⟨kd,nn,[],nms,0⟩ ⟨hk.1,hk.2,hv⟩ rfl rfl hsz
end
theorem need_ok {T:List (Int×Nat×Nat)} {s:Ps} (tag:Nat) (h:s.bad<0):need T tag s=20*(T.length-s.at_)+cOk tag:=by
 rcases need_or T tag s with ⟨h1,_⟩|⟨_,h2⟩
 ·omega
 ·exact h2
end ip
namespace ip
open Go.RowKit bts nod lex tk vt ps
section
variable {zs:List Int} {T:List (Int×Nat×Nat)}
theorem step_loop (s:Ps):(ps.step s).loop=s.loop:=rfl
theorem wrong_loop (s:Ps):(wrong zs T s).loop=s.loop:=wrong_at.2.1
theorem want_loop (s:Ps) (t:ByteArray):(want zs T s t).loop=s.loop:=by unfold want;split;rfl;exact wrong_loop s
theorem got_loop (s:Ps) (t:ByteArray):(got zs T s t).loop=s.loop:=by unfold got;split <;> rfl
theorem name_loop (s:Ps):(nameS zs T s).loop=s.loop:=by unfold nameS;split;rfl;exact wrong_loop s
theorem namesF_loop:∀(f:Nat) (s:Ps) (out:List (List Int)),(namesF zs T f s out).2.loop=s.loop
 |0,_,_=>rfl
 |f+1,s,out=>by
  rw [namesF]
  split
  ·rw [namesF_loop f,name_loop,got_loop]
  ·rfl
theorem longer_loop (s:Ps) (b:Bool):(longer s b).loop=s.loop:=rfl
theorem names_loop (s:Ps):(names zs T s).2.loop=s.loop:=by unfold names;rw [longer_loop,namesF_loop,name_loop]
theorem pz_loop:∀(f tag:Nat) (n:Int) (ks:List (List Nd)) (s:Ps),(pz zs T f tag n ks s).2.2.loop=s.loop:=by
 intro f
 induction f with
 |zero=>intro tag n ks s;rfl
 |succ f ih =>
  intro tag n ks s
  show (pzS zs T tag (pz zs T f) n ks s).2.2.loop=s.loop
  unfold pzS
  split
  all_goals simp only [pB0,pB1,pB2,pB3,pB4,pB5,pB6,pB7,pB8,pB9,pB10,pB11,pB12,pB13,pB14,pB15,pB16,pB17]
  all_goals repeat' split
  all_goals simp only [ih,want_loop,got_loop,name_loop,names_loop,wrong_loop,longer_loop,step_loop]
end
end ip
namespace ip
open Go.RowKit bts nod lex tk vt
open ps (En Ps isP kindP now wrong want got nameT nameS textOf over up_fq own_far bel_alloc pz need need_or cOk ends names starts named bare longer)
def sl (s:Ps) (b:Bool):Ps:=⟨s.at_,s.bad,s.long,b⟩
def fm (c:Int):Int:=if c=116 then 0 else if c=99 then 1 else 2
def Pt (E:En) (r:List (List Nd)×Int×Ps) (g:Nat) (w:World):Ending→World→Prop :=
 Px r.2.2 g w fun v w'=>∃x l,v=.tuple #[x,.int .i64 (fm r.2.1)]∧r.1=[l]∧Nv (tk.lt w.heap.size) w' w.heap.size w'.heap.size x l∧Ip E w' g r.2.2
def Pk (E:En) (ks:List (List Nd)) (s':Ps) (g:Nat) (w:World):Ending→World→Prop :=
 Px s' g w fun v w'=>∃a c xs,v=.slice a xs.length c∧w'.ownsRow w.heap.size 49 1 v xs.length xs∧Kv (hr w v) w' w.heap.size w'.heap.size xs ks∧xs.length≤s'.at_+1∧Ip E w' g s'
def Pm (E:En) (nms:List (List Int)) (s':Ps) (g:Nat) (w:World):Ending→World→Prop :=
 Px s' g w fun v w'=>OwTT w' w.heap.size w'.heap.size v nms∧Ip E w' g s'
def Pb (E:En) (r:List (List Nd)×Int×Ps) (lp:Bool) (g:Nat) (w:World) (e:Ending) (w':World):Prop :=
 Fq g w w'∧((r.2.2.bad<0∧∃v l,e=.returned v∧r.1=[l]∧Nv (tk.lt w.heap.size) w' w.heap.size w'.heap.size v l∧Ip E w' g (sl r.2.2 lp)) ∨
  ((0≤r.2.2.bad∨ends E.zs E.T r.2.2=false)∧e=.panicked (flt (wrong E.zs E.T r.2.2).bad)))
def Po (E:En) (r:List (List Nd)×Int×Ps) (s:Ps) (g:Nat) (w:World) (e:Ending) (w':World):Prop :=
 Pn E r g w e w'∨(Fq g w w'∧(kindP E.T s=1∨isP E.zs E.T s {data:=#[40]}=true)∧∃s1 v,e=.returned v∧Ip E w' g s1∧s.at_≤s1.at_∧s1.loop=s.loop∧0≤r.2.2.bad∧r.2.2.bad=(wrong E.zs E.T s1).bad∧(isP E.zs E.T s1 {data:=#[61]}=true∨isP E.zs E.T s1 {data:=#[44]}=true)∧∃l,Nv (tk.lt w.heap.size) w' w.heap.size w'.heap.size v l)
def stat (zs:List Int) (T:List (Int×Nat×Nat)) (f:Nat) (s:Ps):List (List Nd)×Int×Ps :=
 if isP zs T s {data:=#[114,101,116,117,114,110]} then
  (let y:=if starts zs T (got zs T s {data:=#[114,101,116,117,114,110]}) then pz zs T f 6 0 [] (got zs T s {data:=#[114,101,116,117,114,110]}) else ([],0,got zs T s {data:=#[114,101,116,117,114,110]})
  ([tk.node (bare 9) y.1],0,y.2.2))
 else if s.loop&&isP zs T s {data:=#[98,114,101,97,107]} then ([leaf 8],0,got zs T s {data:=#[98,114,101,97,107]})
 else pz zs T f 13 0 [] s
def Ps' (E:En) (r:List (List Nd)×Int×Ps) (s:Ps) (g:Nat) (w:World) (e:Ending) (w':World):Prop :=
 Po E r s g w e w'∨(Fq g w w'∧isP E.zs E.T s {data:=#[114,101,116,117,114,110]}=true∧r.2.2.bad<0∧ends E.zs E.T r.2.2=false∧isP E.zs E.T r.2.2 {data:=#[59]}=false∧e=.panicked (flt (wrong E.zs E.T r.2.2).bad))
def agB (b:Bool) (g:Nat):Array Value:=#[.pointer (some ⟨g,0,none⟩),.bool b]
structure Ia (E:En) (f:Nat):Prop where
 bin:∀(n:Int) (s:Ps),1≤n→n≤7→need E.T 0 s≤f→Nod E 120 (ag2 n) s (pz E.zs E.T f 0 n [] s)
 una:∀(s:Ps),need E.T 2 s≤f→Nod E 126 ag1 s (pz E.zs E.T f 2 0 [] s)
 sim:∀(s:Ps),need E.T 3 s≤f→Nod E 131 ag1 s (pz E.zs E.T f 3 0 [] s)
 suf:∀(s:Ps),need E.T 4 s≤f→∀(w:World) (g:Nat),Ip E w g s→Calls Tryz.prog 121 (ag1 g) w (Pt E (pz E.zs E.T f 4 0 [] s) g w)
 exs:∀(s:Ps),need E.T 6 s≤f→∀(w:World) (g:Nat),Ip E w g s→Calls Tryz.prog 119 (ag1 g) w (Pk E (pz E.zs E.T f 6 0 [] s).1 (pz E.zs E.T f 6 0 [] s).2.2 g w)
 fun_:∀(s:Ps),need E.T 8 s≤f→Nod E 117 ag1 s (pz E.zs E.T f 8 0 [] s)
 tab:∀(s:Ps),isP E.zs E.T s {data:=#[123]}=true→need E.T 9 s≤f→Nod E 133 ag1 (got E.zs E.T s {data:=#[123]}) (pz E.zs E.T f 9 0 [] s)
 blk:∀(lp:Bool) (s:Ps),need E.T 11 s≤f→∀(w:World) (g:Nat),Ip E w g s→Calls Tryz.prog 41 (agB lp g) w (Pb E (pz E.zs E.T f 11 0 [] (sl s lp)) s.loop g w)
 sta:∀(s:Ps),need E.T 13 s≤f→∀(w:World) (g:Nat),Ip E w g s→Calls Tryz.prog 82 (ag1 g) w (Ps' E (stat E.zs E.T f s) s g w)
 iff_:∀(s:Ps),need E.T 14 s≤f→Nod E 107 ag1 s (pz E.zs E.T f 14 0 [] s)
 oth:∀(s:Ps),need E.T 16 s≤f→∀(w:World) (g:Nat),Ip E w g s→Calls Tryz.prog 110 (ag1 g) w (Po E (pz E.zs E.T f 16 0 [] s) s g w)
section
variable {E:En} {w W W':World} {g m:Nat} {un v x:Value} {nms:List (List Int)} {us xs:List Value} {ks ls:List (List Nd)} {s s':Ps} {l:List Nd} {r:List (List Nd)×Int×Ps}
theorem end_no {t:ByteArray} (h:ends E.zs E.T s=false) (ht:t={data:=#[101,110,100]}∨t={data:=#[101,108,115,101]}∨t={data:=#[101,108,115,101,105,102]}∨t={data:=#[117,110,116,105,108]}):isP E.zs E.T s t=false:=by
 unfold ends at h
 simp only [Bool.or_eq_false_iff] at h
 rcases ht with rfl|rfl|rfl|rfl
 ·exact h.1.1.1.2
 ·exact h.1.1.2
 ·exact h.1.2
 ·exact h.2
theorem wrong_eq {s1 s2:Ps} (h1:s1.at_=s2.at_) (h2:s1.bad=s2.bad):(wrong E.zs E.T s1).bad=(wrong E.zs E.T s2).bad:=by
 unfold ps.wrong
 rw [h1,h2]
 split <;> simp_all
theorem is_eq {s1 s2:Ps} {t:ByteArray} (h1:s1.at_=s2.at_) (h2:s1.bad=s2.bad):isP E.zs E.T s1 t=isP E.zs E.T s2 t:=by
 unfold ps.isP ps.kindP ps.now ps.over
 rw [h1,h2]
theorem blk_want {t:ByteArray} {lp:Bool} (ht:t={data:=#[101,110,100]}∨t={data:=#[101,108,115,101]}∨t={data:=#[101,108,115,101,105,102]}∨t={data:=#[117,110,116,105,108]}) (h:0≤s.bad∨ends E.zs E.T s=false):(want E.zs E.T (sl s lp) t).bad=(wrong E.zs E.T s).bad:=by
 rcases h with h|h
 ·rw [want_off (by exact h),wrong_off h];rfl
 ·rw [want_no (show isP E.zs E.T (sl s lp) t=false from (is_eq (s1:=sl s lp) (s2:=s) rfl rfl).trans (end_no h ht))]
  exact wrong_eq rfl rfl
theorem wrong_nn:0≤(wrong E.zs E.T s).bad:=(ps.wrong_f _ _ _).2
theorem blk_at {f:Nat} {lp:Bool} (hn:need E.T 11 s≤f):s.at_≤(pz E.zs E.T f 11 0 [] (sl s lp)).2.2.at_:=(ps.gd_at (ps.pz_gd E.zs E.T f 11 0 [] (sl s lp) (by decide) hn)).1
theorem Cz.blk (C:Cz E w g un nms v m us ks W s) {f:Nat} (A:Ia E f) (lp:Bool) (hn:need E.T 11 s≤f) :
  Calls Tryz.prog 41 #[.pointer (some ⟨g,0,none⟩),.bool lp] W fun e w'=>((pz E.zs E.T f 11 0 [] (sl s lp)).2.2.bad<0∧s.at_≤(pz E.zs E.T f 11 0 [] (sl s lp)).2.2.at_∧∃T gg l,e=.returned (.iface T (.pointer (some ⟨gg,0,none⟩)))∧(pz E.zs E.T f 11 0 [] (sl s lp)).1=[l]∧Cz E w g un nms v m (us++[.iface T (.pointer (some ⟨gg,0,none⟩))]) (ks++[l]) w' (sl (pz E.zs E.T f 11 0 [] (sl s lp)).2.2 s.loop)) ∨
   ((0≤(pz E.zs E.T f 11 0 [] (sl s lp)).2.2.bad∨ends E.zs E.T (pz E.zs E.T f 11 0 [] (sl s lp)).2.2=false)∧e=.panicked (flt (wrong E.zs E.T (pz E.zs E.T f 11 0 [] (sl s lp)).2.2).bad)∧Fq g w w') :=
 (A.blk lp s hn W g C.ip).mono (by
  rintro e w' ⟨hF,⟨hb,u,l,rfl,h1,h2,h3⟩|⟨hb,rfl⟩⟩
  ·obtain ⟨T,gg,rfl⟩:=h2.isI
   exact .inl ⟨hb,blk_at hn,T,gg,l,rfl,h1,C.push hF h3 h2⟩
  ·exact .inr ⟨hb,rfl,C.fq.trans hF⟩)
end
theorem sl_bad (s:Ps) (b:Bool):(sl s b).bad=s.bad:=by rw [sl]
section
variable (zs:List Int) (T:List (Int×Nat×Nat)) (f:Nat) (n:Int) (ks:List (List Nd)) (s:Ps)
def prm:List (List Int)×Ps:=if isP zs T s {data:=#[41]} then ([],s) else names zs T s
theorem p8:pz zs T (f+1) 8 n ks s=([tk.node ⟨19,0,[],(prm zs T (want zs T s {data:=#[40]})).1,0⟩ (pz zs T f 11 0 [] (sl (want zs T (prm zs T (want zs T s {data:=#[40]})).2 {data:=#[41]}) false)).1],0,
  want zs T (sl (pz zs T f 11 0 [] (sl (want zs T (prm zs T (want zs T s {data:=#[40]})).2 {data:=#[41]}) false)).2.2 (want zs T (prm zs T (want zs T s {data:=#[40]})).2 {data:=#[41]}).loop) {data:=#[101,110,100]}):=rfl
end
end ip
namespace ip
open Go.RowKit bts nod lex tk vt
open ps (En Ps isP kindP now wrong want got nameT nameS textOf over up_fq own_far bel_alloc pz need need_or cOk ends names starts named bare longer)
section
variable {E:En} {w W:World} {g m:Nat} {un v x:Value} {nms:List (List Int)} {us:List Value} {ks:List (List Nd)} {s:Ps}
theorem atEnd_any (h:Ip E w g s) (hI:Ir E):Calls Tryz.prog 42 #[.pointer (some ⟨g,0,none⟩)] w fun e w'=>e=.returned (.bool (over E.T s))∧∃k,w'=w.drewN k:=by
 have c1:w.cell? ⟨g,1,none⟩=some (.slice E.tv (E.T.length+1) E.tc):=h.2.2.1.at (j:=1) (by omega)
 have c2:w.cell? ⟨g,2,none⟩=some (.int .i64 (s.at_:Int)):=h.c2
 have hb:=h.2.2.2.2
 have hl:=h.2.2.2.1
 have hM:=hI.many
 have e:over E.T s=((s.at_:Int)==(E.T.length:Int)):=by
  unfold ps.over
  rw [decide_eq_false (by omega),Bool.false_or,Bool.eq_iff_iff]
  simp only [decide_eq_true_eq,beq_iff_eq]
  omega
 rw [e]
 obtain ⟨n,hn⟩:∃n,n=E.T.length:=⟨_,rfl⟩
 rw [← hn] at c1 hM ⊢
 clear e hb hl hI h hn
 go_enter Tryz.func42,Tryz.ntmps42
 go_wp2_with fail
 go_quiet (fail)
 go_wp2
 go_returns
 exact ⟨by first|rfl|(congr;simp),_,rfl⟩
theorem Cz.atEnd (C:Cz E w g un nms v m us ks W s):Calls Tryz.prog 42 #[.pointer (some ⟨g,0,none⟩)] W fun e w'=>(over E.T s=true∧e=.returned (.bool true)∧Cz E w g un nms v m us ks w' s)∨(over E.T s=false∧e=.returned (.bool false)∧Cz E w g un nms v m us ks w' s) :=
 (atEnd_any C.ip C.ir).mono (by
  rintro e w' ⟨rfl,k,rfl⟩
  have:=(C.bel (tk.bel_drewN (Below.refl _ _) k)).1
  cases h:over E.T s
  ·exact .inr ⟨rfl,rfl,this⟩
  ·exact .inl ⟨rfl,rfl,this⟩)
theorem blockEnds_any (hI:Ir E) (h:Ip E w g s):Calls Tryz.prog 80 #[.pointer (some ⟨g,0,none⟩)] w fun e w'=>e=.returned (.bool (ends E.zs E.T s))∧Ip E w' g s∧Fq g w w':=by
 have C:Hid (Cz E w g nil [] nil 0 [] [] w s):=Cz.start hI h
 have K:Hid (s.bad<0∧True):=⟨h.2.2.2.2,trivial⟩
 clear hI h
 go_enter Tryz.func80,Tryz.ntmps80
 go_wp2_with (first
  |(go_at_call 42;refine (C.out.atEnd).mono ?_;rintro e w1 (⟨hb,rfl,hC⟩|⟨hb,rfl,hC⟩) <;> (replace C:Hid _:=hC) <;> (replace K:Hid (_∧_):=⟨hb,K.out⟩) <;> clear hC hb)
  |(go_at_call 81;refine (C.out.sees (by kernel_rfl)).mono ?_;rintro e w1 (⟨hb,rfl,hC⟩|⟨hb,rfl,hC⟩) <;> (replace C:Hid _:=hC) <;> (replace K:Hid (_∧_):=⟨hb,K.out⟩) <;> clear hC hb))
 all_goals
  go_returns
  exact ⟨by have k:=K.out;simp [ps.ends,k],C.out.ip,C.out.fq⟩
theorem Cz.blockEnds (C:Cz E w g un nms v m us ks W s):Calls Tryz.prog 80 #[.pointer (some ⟨g,0,none⟩)] W fun e w'=>(ends E.zs E.T s=true∧e=.returned (.bool true)∧Cz E w g un nms v m us ks w' s)∨(ends E.zs E.T s=false∧e=.returned (.bool false)∧Cz E w g un nms v m us ks w' s) :=
 (blockEnds_any C.ir C.ip).mono (by
  rintro e w' ⟨rfl,hP,hF⟩
  cases h:ends E.zs E.T s
  ·exact .inr ⟨rfl,rfl,C.to hF hP⟩
  ·exact .inl ⟨rfl,rfl,C.to hF hP⟩)
end
theorem expr_any {E:En} (hI:Ir E) {f:Nat} (A:Ia E f) (s:Ps) (hn:need E.T 0 s≤f):Nod E 105 ag1 s (pz E.zs E.T f 0 1 [] s):=by
 intro w g hP
 have D:Hid (Calls Tryz.prog 120 #[.pointer (some ⟨g,0,none⟩),.int .i64 1] w (Pn E (pz E.zs E.T f 0 1 [] s) g w)):=A.bin 1 s (by decide) (by decide) hn w g hP
 clear hn hI A hP
 unfold ag1
 go_enter Tryz.func105,Tryz.ntmps105
 go_wp2_with (go_at_call 120;refine D.out.mono ?_;rintro e w1 ⟨hF,⟨hb,u,rfl,l,h1,h2,h3⟩|⟨hb,rfl⟩⟩;rotate_left;exact ⟨rfl,hF,.inr ⟨hb,rfl⟩⟩;obtain ⟨T1,g1,rfl⟩:=h2.isI;have R:Hid (Pn E (pz E.zs E.T f 0 1 [] s) g w (.returned (.iface T1 (.pointer (some ⟨g1,0,none⟩)))) w1):=⟨hF,.inl ⟨hb,_,rfl,l,h1,h2,h3⟩⟩;clear hF hb h1 h2 h3)
 go_returns
 exact R.out
def agE (b:Bool) (t:ByteArray) (g:Nat):Array Value:=#[.pointer (some ⟨g,0,none⟩),.bool b,.string t]
theorem body_any {E:En} (hI:Ir E) {f:Nat} (A:Ia E f) (lp:Bool) (t:ByteArray) (hl:isLit t=true) (ht:t={data:=#[101,110,100]}∨t={data:=#[101,108,115,101]}∨t={data:=#[101,108,115,101,105,102]}∨t={data:=#[117,110,116,105,108]}) (s:Ps) (hn:need E.T 11 s≤f) :
  Nod E 104 (agE lp t) s ((pz E.zs E.T f 11 0 [] (sl s lp)).1,0,want E.zs E.T (sl (pz E.zs E.T f 11 0 [] (sl s lp)).2.2 s.loop) t):=by
 intro w g hP
 have C:Hid (Cz E w g nil [] nil 0 [] [] w s):=Cz.start hI hP
 have K:Hid (need E.T 11 s≤f):=hn
 have HT:Hid (t={data:=#[101,110,100]}∨t={data:=#[101,108,115,101]}∨t={data:=#[101,108,115,101,105,102]}∨t={data:=#[117,110,116,105,108]}):=ht
 have HL:Hid (isLit t=true):=hl
 have HA:Hid (Ia E f):=A
 clear hn hI A hP ht hl
 unfold agE
 go_enter Tryz.func104,Tryz.ntmps104
 go_wp2_with (first
  |(go_at_call 41;refine (C.out.blk HA.out lp K.out).mono ?_;rintro e w1 (⟨hb,ha,T1,g1,l1,rfl,hl,hC⟩|⟨hb,rfl,hF⟩);rotate_left;exact ⟨rfl,dead hF wrong_nn (blk_want HT.out hb)⟩;simp only [List.nil_append] at hC;replace C:Hid _:=hC;have H:Hid _:=hl;clear hC hb ha hl)
  |(go_at_call 106;refine (C.out.expect HL.out).mono ?_;rintro e w1 (⟨hb,ha,⟨u,rfl⟩,hC⟩|⟨hb,rfl,hF⟩);rotate_left;exact ⟨rfl,dead hF hb rfl⟩;replace C:Hid _:=hC;clear hC hb ha))
 go_returns
 exact C.out.done H.out rfl
theorem una_next {E:En} (hI:Ir E) {f:Nat} (A:Ia E f) (s:Ps) (hn:need E.T 2 s≤f+1):Nod E 126 ag1 s (pz E.zs E.T (f+1) 2 0 [] s):=by
 intro w g hP
 have C:Hid (Cz E w g nil [] nil 0 [] [] w s):=Cz.start hI hP
 have K:Hid (20*(E.T.length-s.at_)+5≤f+1∧s.at_≤E.T.length∧s.bad<0):=⟨by rw [need_ok 2 hP.2.2.2.2] at hn;exact hn,hP.2.2.2.1,hP.2.2.2.2⟩
 have HA:Hid (Ia E f):=A
 clear hn hI A hP
 unfold ag1
 go_enter Tryz.func126,Tryz.ntmps126
 go_wp2_with (first
  |(go_at_call 83;refine (C.out.accepts (by kernel_rfl)).mono ?_;rintro e w1 (⟨hb,ha,rfl,hC⟩|⟨hb,rfl,hC⟩) <;> (replace C:Hid _:=hC) <;> (first|replace K:Hid (_∧_∧_):=⟨hb,ha,K.out⟩|replace K:Hid (_∧_):=⟨hb,K.out⟩) <;> clear hC hb)
  |(go_at_call 126;refine (C.out.cal (by decide) (HA.out.una _) (by have k:=K.out;have c:=C.out.ip.2.2.2;rw [need_ok _ c.2];simp only [cOk];omega)).mono ?_;rintro e w1 (⟨hb,ha,T1,g1,l1,rfl,hl,hC⟩|⟨hb,rfl,hF⟩);rotate_left;exact ⟨rfl,dead hF hb (by have k:=K.out;simp only [ps.pz_2,ps.pB2,k,if_true,if_false,Bool.false_eq_true])⟩;simp only [List.nil_append,List.cons_append] at hC;replace C:Hid _:=hC;replace K:Hid (_∧_∧_∧_):=⟨hb,ha,hl,K.out⟩;clear hC hb ha hl)
  |(go_at_call 131;refine (C.out.cal (by decide) (HA.out.sim _) (by have k:=K.out;have c:=C.out.ip.2.2.2;rw [need_ok _ c.2];simp only [cOk];omega)).mono ?_;rintro e w1 (⟨hb,ha,T1,g1,l1,rfl,hl,hC⟩|⟨hb,rfl,hF⟩);rotate_left;exact ⟨rfl,dead hF hb (by have k:=K.out;simp only [ps.pz_2,ps.pB2,k,if_true,if_false,Bool.false_eq_true])⟩;simp only [List.nil_append,List.cons_append] at hC;replace C:Hid _:=hC;replace K:Hid (_∧_∧_∧_):=⟨hb,ha,hl,K.out⟩;clear hC hb ha hl)
  |(go_at_call 84;refine (C.out.lit rfl (by simp) (by decide) (by decide) (by decide)).mono ?_;rintro e w1 ⟨T1,g1,rfl,hC,hF⟩;replace C:Hid _:=hC;clear hC hF))
 all_goals
  go_returns
  exact C.out.done (by have k:=K.out;simp only [ps.pz_2,ps.pB2,k,if_true,if_false,Bool.false_eq_true] <;> rfl) (by have k:=K.out;simp only [ps.pz_2,ps.pB2,k,if_true,if_false,Bool.false_eq_true])
end ip
namespace ip
open Go.RowKit bts nod lex tk vt
open ps (En Ps isP kindP now wrong want got nameT nameS textOf over up_fq own_far bel_alloc pz need need_or cOk ends names starts named bare longer namesF)
theorem info_b:(Tryz.prog.info? 22).map (fun i=>(i.zero,i.size,i.bytes))=some (some (.slice none 0 0),1,24):=by kernel_rfl
section
variable {E:En} {w W W':World} {g m:Nat} {un v x u:Value} {nms:List (List Int)} {us xs:List Value} {ks ls:List (List Nd)} {s s':Ps} {l:List Nd} {tx:List Int}
theorem Cz.take (C:Cz E w g un nms v m us ks W s) :
  Calls Tryz.prog 116 #[.pointer (some ⟨g,0,none⟩),.int .i64 1] W fun e w'=>((nameS E.zs E.T s).bad<0∧(nameS E.zs E.T s).at_=s.at_+1∧kindP E.T s=1∧∃a c,e=.returned (.slice a (nameT E.zs E.T s).length c)∧OwT w' W.heap.size w'.heap.size (.slice a (nameT E.zs E.T s).length c) (nameT E.zs E.T s)∧Ip E w' g (nameS E.zs E.T s)∧Fq g W w') ∨
   (0≤(nameS E.zs E.T s).bad∧e=.panicked (flt (nameS E.zs E.T s).bad)∧Fq g w w'):=by
 by_cases hk:kindP E.T s=1
 ·refine (take_yes C.ir C.ip hk (by decide)).mono ?_
  have e1:nameT E.zs E.T s=nums (now E.zs E.T s):=by unfold ps.nameT;rw [if_pos hk]
  have e2:nameS E.zs E.T s={ps.step s with long:=s.long || decide (5000<(now E.zs E.T s).size)}:=by unfold ps.nameS;rw [if_pos hk]
  rintro e w' ⟨a,c,rfl,h1,h2,h3⟩
  rw [e1,e2]
  exact .inl ⟨C.ip.2.2.2.2,rfl,hk,a,c,rfl,h1,h2,h3⟩
 ·refine (take_no C.ir C.ip hk).mono ?_
  rintro e w' ⟨rfl,hF⟩
  have e2:nameS E.zs E.T s=wrong E.zs E.T s:=by unfold ps.nameS;rw [if_neg hk]
  rw [e2]
  exact .inr ⟨wrong_nn,rfl,C.fq.trans hF⟩
theorem OwT.veil {V:Nat→Bool} {B M:Nat} (h:OwT W B M u tx) (hV:∀b,B≤b→V b=false):OwT (veil V W) B M u tx:=⟨own_veil h.1 (fun b e=>hV b (h.1.lt b e).1),h.2⟩
theorem Cz.name1 (C:Cz E w g nil [] nil 0 [] [] W s) (hT:OwT W' W.heap.size W'.heap.size u tx) (hP:Ip E W' g s') (hF:Fq g W W') :
  Cz E w g (.slice (some ⟨W'.heap.size,0,none⟩) 1 1) [tx] nil 0 [] [] (W'.alloc (.cells #[u] 22)) s':=by
 have hB:=bel_alloc W' (.cells #[u] 22)
 have h1:=C.sz
 have h2:=hF.below.size
 have e:=World.size_alloc W' (.cells #[u] 22)
 refine ⟨C.ir,hP.keep hB,C.fq.trans (hF.grown (Nat.le_of_lt hP.lt) hB),C.hg,World.ownsRow_nil _ _ _ _,W'.heap.size+1,by omega,⟨[u],?_,?_,?_,?_⟩,rfl,by omega⟩
 ·refine own_veil ⟨rfl,.inr ⟨W'.heap.size,1,#[u],rfl,by omega,heap_alloc_new _ _,Nat.le_refl _,by unfold maxLen;omega,rfl,rfl⟩⟩ ?_
  intro b hb
  simp only [Value.ownBlock,Option.some.injEq] at hb
  subst hb
  simp [hr,tk.lt,Value.ownBlock]
  omega
 ·intro b hb
  simp only [Value.ownBlock,Option.some.injEq] at hb
  omega
 ·intro i hi
  obtain rfl:i=0:=by simpa using hi
  refine ⟨u,rfl,?_⟩
  have hL:Lk (veil (tk.lt W.heap.size) W') (veil (hr w nil) (W'.alloc (.cells #[u] 22))):=by
   have a:=lk_up (V:=tk.lt W.heap.size) (up_alloc _ W' (.cells #[u] 22))
   have b:=lk_veils (w:=W'.alloc (.cells #[u] 22)) (V:=tk.lt W.heap.size) (V':=hr w nil) (fun b _ h=>by simp [tk.lt] at h;simp [hr,tk.lt,Value.ownBlock];omega)
   exact ⟨fun x o h=>b.1 x o (a.1 x o h),fun x o h=>b.2 x o (a.2 x o h)⟩
  exact ((hT.veil (V:=tk.lt W.heap.size) (fun b hb=>tk.lt_ge hb)).lk hL).wide h1 (by omega)
 ·intro i j a b c hij ha hb
  have:j<1:=by
   rcases Nat.lt_or_ge j 1 with h|h
   ·exact h
   ·rw [List.getElem?_eq_none (by simpa using h)] at hb;cases hb
  omega
theorem own_ty {B B' T T' c c' n n' b:Nat} {us us':List Value} (h:W.ownsRow B T c v n us) (h':W.ownsRow B' T' c' u n' us') (e:v.ownBlock=some b) (e':u.ownBlock=some b):T=T':=by
 rcases h.2 with ⟨rfl,_⟩|⟨g1,_,_,rfl,_,h1,_⟩
 ·cases e
 ·rcases h'.2 with ⟨rfl,_⟩|⟨g2,_,_,rfl,_,h2,_⟩
  ·cases e'
  ·simp only [Value.ownBlock,Option.some.injEq] at e e'
   subst e e'
   rw [h1] at h2
   simp only [Option.some.injEq,Obj.cells.injEq] at h2
   exact h2.2.1
theorem wpList_name {ops:Array Oper} {rest:List Oper} {o:Oper} {a:Act} {K:Exit→Act→World→Prop} {w3:World} (hgd:o.guard=none) (sv xv:Operand)
  (ho:o.op=.call {callee:=.builtin .append,args:=#[sv,xv],argTypes:=#[59,59]})
  {ao:Option Addr} {n c:Nat} (C:Cz E w g (.slice ao n c) nms nil 0 [] [] W s) (hT:OwT W' W.heap.size W'.heap.size u tx) (hP:Ip E W' g s') (hF:Fq g W W')
  (hs:a.eval sv=.slice ao n c) (hxe:a.eval xv=.slice (some ⟨W'.heap.size,0,none⟩) 1 1) (hW:w3=W'.alloc (.cells #[u] 22)) (hm:nms.length≤90000)
  (h:∀a' c' w',Cz E w g (.slice a' (n+1) c') (nms++[tx]) nil 0 [] [] w' s'→wpList Tryz.prog ops K rest (a.put o.dst (.slice a' (n+1) c')) w'):wpList Tryz.prog ops K (o::rest) a w3:=by
 subst hW
 refine wpList_plain hgd fun K' hK'=>?_
 obtain ⟨M,m1,⟨us,o1,o2,o3,o4⟩,m3⟩:=C.mid
 have hMW:M≤W.heap.size:=Chain.le m3
 have hn:n=nms.length:=by
  rcases o1.2 with ⟨e,e2⟩|⟨_,_,_,e,_⟩
  ·simp only [Value.slice.injEq] at e;omega
  ·simp only [Value.slice.injEq] at e;omega
 have s1:=C.sz
 have s2:=hF.below.size
 have hg:=C.hg
 have hB:=bel_alloc W' (.cells #[u] 22)
 have es:=World.size_alloc W' (.cells #[u] 22)
 obtain ⟨i0,hi0,hz0,hz1,hz2⟩:=info_parts info_b
 have hV:∀b,w.heap.size≤b→hr w nil b=false:=fun b hb=>by simp [hr,tk.lt,Value.ownBlock];omega
 have L1:Lk (veil (hr w nil) W) (veil (hr w nil) W'):=C.lk hF
 have L2:Lk (veil (hr w nil) W') (veil (hr w nil) (W'.alloc (.cells #[u] 22))):=lk_up (up_alloc _ _ _)
 have p1:(veil (hr w nil) (W'.alloc (.cells #[u] 22))).ownsRow w.heap.size 22 1 (.slice ao n c) n us:=by rw [hn] at o1 ⊢;exact own_lk (own_lk o1 L1) L2
 have q1:(W'.alloc (.cells #[u] 22)).ownsRow w.heap.size 22 1 (.slice ao n c) n us:=own_lk p1 (lk_bare _ _)
 have hu:u.oneCell'=true:=by obtain ⟨_,_,rfl⟩:=hT.slice;rfl
 obtain ⟨a',c',w',e1,e2⟩:=run_append_row (W'.alloc (.cells #[u] 22)) 59 o.type 22 i0 (.slice none 0 0) 1 24 Tryz.underlying59 hi0 hz0 hz1 hz2 rfl (by omega) w.heap.size ao n c us q1 (some ⟨W'.heap.size,0,none⟩) 1 1 [u] rfl (fun _=>⟨_,rfl,fun j u2 hu2=>by
  rw [plainAt,Nat.zero_add]
  unfold World.cell?
  rw [heap_alloc_new]
  simpa using hu2⟩) (by intro y hy;simp at hy;rw [hy];exact hu) (by unfold maxLen;omega) (by omega) (by omega)
 have hgw:=e2.grow.size
 have b1:Below w.heap.size W' w':=(hB.mono (by omega)).grown e2.grow (by omega) (fun k hk=>(q1.lt k hk).1)
 have hrow:∀b,(Value.slice ao n c).ownBlock=some b→b<W.heap.size:=fun b hb=>by
  have:=(o1.lt b hb).2
  rwa [veil_size] at this
 have kin:∀(y:Value) (k:Nat) (ys:List Value),(W'.alloc (.cells #[u] 22)).ownsRow w.heap.size 5 1 y k ys→(veil (hr w nil) w').ownsRow w.heap.size 5 1 y k ys:=fun y k ys hy=>by
  refine own_veil (hy.kept e2.grow ?_) (fun b hb=>hV b (hy.lt b hb).1)
  cases hb:y.ownBlock with
  |none=>exact .inl rfl
  |some b =>
   refine .inr fun hc=>?_
   have:=own_ty hy q1 hb hc.symm
   exact absurd this (by decide)
 have hTu:(W'.alloc (.cells #[u] 22)).ownsRow w.heap.size 5 1 u tx.length (bcells tx):=own_base (hT.1.alloc _) s1
 unfold Oper.wp execOp
 simp only [ho,resolve,invoke,builtin,Sem.run_bind,Sem.run_pure,Result.andThen_ok,List.map_toArray,List.map_cons,List.map_nil,hs,hxe,e1]
 refine hK' _ _ (h a' c' w' ⟨C.ir,⟨hP.1.trans (b1.mono (by have:=hP.2.1;omega)),hP.2.1,hP.2.2.1.below b1 hg,hP.2.2.2⟩,?_,hg,World.ownsRow_nil _ _ _ _,w'.heap.size,by omega,⟨us++[u],?_,?_,?_,?_⟩,rfl,Nat.le_refl _⟩)
 ·have f1:=C.fq.trans hF
  exact ⟨f1.below.trans (b1.mono (by omega)),fun b hb hbg=>(b1.block b hb).trans (f1.keep b hb hbg)⟩
 ·rw [List.length_append,← hn]
  exact own_veil e2.own (fun b hb=>hV b (e2.own.lt b hb).1)
 ·intro b hb
  exact (e2.own.lt b hb).2
 ·intro i hi
  rw [List.length_append,List.length_singleton] at hi
  have hul:us.length=n:=by have:=q1.1;omega
  rcases Nat.lt_or_ge i nms.length with h1|h1
  ·obtain ⟨y,hy,hO⟩:=o3 i h1
   refine ⟨y,by rw [List.getElem?_append_left (by omega)];exact hy,?_⟩
   have e:(nms++[tx]).getD i []=nms.getD i []:=by rw [List.getD_eq_getElem?_getD,List.getElem?_append_left h1,← List.getD_eq_getElem?_getD]
   rw [e]
   exact ⟨kin _ _ _ (own_lk (own_lk (own_lk hO.1 L1) L2) (lk_bare _ _)),fun b hb=>by have:=hO.2.1 b hb;omega,hO.2.2⟩
  ·obtain rfl:i=nms.length:=by omega
   refine ⟨u,by rw [List.getElem?_append_right (by omega)];simp [hul,hn],?_⟩
   have e:(nms++[tx]).getD nms.length []=tx:=by simp
   rw [e]
   exact ⟨kin _ _ _ hTu,fun b hb=>by have:=hT.2.1 b hb;omega,hT.2.2⟩
 ·intro i j y y' b hij hy hy' hb
  have hul:us.length=n:=by have:=q1.1;omega
  rcases Nat.lt_or_ge j us.length with h1|h1
  ·rw [List.getElem?_append_left (by omega)] at hy hy'
   exact o4 i j y y' b hij hy hy' hb
  ·rcases Nat.lt_or_ge us.length j with h2|h2
   ·rw [List.getElem?_eq_none (by simp;omega)] at hy';cases hy'
   ·obtain rfl:j=us.length:=by omega
    rw [List.getElem?_append_left hij] at hy
    rw [List.getElem?_append_right (Nat.le_refl _)] at hy'
    simp at hy'
    subst hy'
    obtain ⟨y2,hy2,hO⟩:=o3 i (by omega)
    rw [hy] at hy2
    cases hy2
    intro hc
    have a1:=hO.2.1 b hb
    have a2:=(hT.1.lt b hc).1
    omega
end
end ip
namespace ip
open Go.RowKit bts nod lex tk vt
open ps (En Ps isP kindP now wrong want got nameT nameS textOf over up_fq own_far bel_alloc pz need need_or cOk ends names starts named bare longer namesF)
def mI (E:En) (g:Nat) (w:World):Nat:=E.T.length-(intOf ((w.cell? ⟨g,2,none⟩).getD (.int .i64 0))).toNat
theorem mI_eq {E:En} {w:World} {g:Nat} {s:Ps} (h:Ip E w g s):mI E g w=E.T.length-s.at_:=by
 unfold mI
 rw [h.c2]
 simp [intOf]
theorem names_len (zs:List Int) (T:List (Int×Nat×Nat)):∀(f:Nat) (s:Ps) (out:List (List Int)),out.length≤s.at_→(namesF zs T f s out).1.length≤(namesF zs T f s out).2.at_+1
 |0,_,_,h=>Nat.le_succ_of_le h
 |f+1,s,out,h=>by
  rw [namesF]
  split
  ·rename_i hi
   have hi:isP zs T s {data:=#[44]}=true:=hi
   have ge:=(ps.got_yes hi).1
   have gf:=ps.name_f zs T (got zs T s {data:=#[44]})
   rcases gf with ⟨h1,_⟩|⟨h1,h2⟩
   ·exact names_len zs T f _ _ (by rw [List.length_append,List.length_singleton];omega)
   ·refine Nat.le_trans (Nat.le_of_eq ?_) (Nat.succ_le_succ (show out.length≤_ from ?_))
    ·rw [namesF_off _ _ _ h2,List.length_append,List.length_singleton]
    ·rw [namesF_off _ _ _ h2];show _≤(nameS zs T (got zs T s {data:=#[44]})).at_;omega
  ·exact Nat.le_succ_of_le h
theorem names_any {E:En} (hI:Ir E) {w:World} {g:Nat} {s:Ps} (hP:Ip E w g s):Calls Tryz.prog 118 #[.pointer (some ⟨g,0,none⟩)] w (Pm E (names E.zs E.T s).1 (names E.zs E.T s).2 g w):=by
 have C:Hid (Cz E w g nil [] nil 0 [] [] w s):=Cz.start hI hP
 have HM:E.T.length≤6000:=hI.many
 have K:Hid ((names E.zs E.T s).1=(namesF E.zs E.T (E.T.length+1) (nameS E.zs E.T s) [nameT E.zs E.T s]).1∧(names E.zs E.T s).2.bad=(namesF E.zs E.T (E.T.length+1) (nameS E.zs E.T s) [nameT E.zs E.T s]).2.bad∧∀W,Ip E W g (namesF E.zs E.T (E.T.length+1) (nameS E.zs E.T s) [nameT E.zs E.T s]).2→Ip E W g (names E.zs E.T s).2):=⟨rfl,rfl,fun _ h=>h⟩
 generalize (names E.zs E.T s)=Y at K ⊢
 clear hI hP
 go_enter Tryz.func118,Tryz.ntmps118
 go_wp2_with (go_at_call 116;refine (C.out.take).mono ?_;rintro e w1 (⟨hb,ha,hk,a1,c1,rfl,hT,hP,hF⟩|⟨hb,rfl,hF⟩);rotate_left;exact ⟨rfl,hF,.inr ⟨by rw [K.out.2.1,namesF_off _ _ _ hb];exact hb,by rw [K.out.2.1,namesF_off _ _ _ hb]⟩⟩;(have C1:Hid _:=C.out.name1 hT hP hF);clear hb ha hk hT hP hF)
 have X:Hid (∃m,E.T.length-(nameS E.zs E.T s).at_≤m∧namesF E.zs E.T (E.T.length+1) (nameS E.zs E.T s) [nameT E.zs E.T s]=namesF E.zs E.T (m+1) (nameS E.zs E.T s) [nameT E.zs E.T s]):=⟨E.T.length,by omega,rfl⟩
 generalize namesF E.zs E.T (E.T.length+1) (nameS E.zs E.T s) [nameT E.zs E.T s]=Z at K X
 go_loopw [3] (fun v wr=>∃(m:Nat) (nms:List (List Int)) (q:Ps) (a:Option Addr) (c:Nat),v=.slice a nms.length c∧Hid (Cz E w g (.slice a nms.length c) nms nil 0 [] [] wr q)∧Hid (E.T.length-q.at_≤m∧Z=namesF E.zs E.T (m+1) q nms)∧nms.length≤q.at_+1) (fun _ wr=>mI E g wr)
 case atStart =>
  obtain ⟨m,h1,h2⟩:=X.out
  exact ⟨m,[nameT E.zs E.T s],nameS E.zs E.T s,_,_,rfl,C1,⟨h1,h2⟩,by simp⟩
 case round =>
  obtain ⟨m,nms,q,a,c,rfl,C2,H,hl⟩:=hrel
  have hms:=mI_eq C2.out.ip
  have hq:=C2.out.ip.2.2.2.1
  clear C1 X C
  go_wp2_with (first
   |(go_at_call 83;refine (C2.out.accepts (by kernel_rfl)).mono ?_;rintro e w3 (⟨hb,ha,rfl,hC⟩|⟨hb,rfl,hC⟩) <;> (have C3:Hid _:=hC) <;> (first|(have J:Hid (_∧_):=⟨hb,ha⟩)|(have J:Hid (_∧True):=⟨hb,trivial⟩)) <;> clear hC hb)
   |(go_at_call 116;refine (C3.out.take).mono ?_;rintro e w4 (⟨hb,ha,hk,a1,c1,rfl,hT,hP,hF⟩|⟨hb,rfl,hF⟩);rotate_left;exact ⟨rfl,hF,.inr (by rw [K.out.2.1,H.out.2,ps.namesF,J.out.1,if_pos rfl,namesF_off _ _ _ hb];exact ⟨hb,rfl⟩)⟩;have Q4:Hid (_∧_∧_∧_∧_):=⟨hb,ha,hT,hP,hF⟩;clear hb ha hk hT hP hF)
   |(at_builtin;refine wpList_name rfl _ _ rfl C3.out Q4.out.2.2.1 Q4.out.2.2.2.1 Q4.out.2.2.2.2 rfl rfl rfl (by omega) ?_;intro a' c' w' hC;have C5:Hid _:=hC;clear hC))
  ·go_roundw
   case rel =>
    have j1:=J.out.2
    have j2:=Q4.out.2.1
    have j3:=C3.out.ip.2.2.2.1
    have j5:=H.out.1
    have j6:=C5.out.ip.2.2.2.1
    refine ⟨m-1,nms++[nameT E.zs E.T (got E.zs E.T q {data:=#[44]})],nameS E.zs E.T (got E.zs E.T q {data:=#[44]}),a',c',by rw [List.length_append,List.length_singleton],by rw [List.length_append,List.length_singleton];exact C5,⟨by omega,?_⟩,by rw [List.length_append,List.length_singleton];omega⟩
    obtain ⟨m',rfl⟩:∃m',m=m'+1:=⟨m-1,by omega⟩
    rw [H.out.2,ps.namesF,J.out.1,if_pos rfl]
    rfl
   case measure =>
    have j1:=J.out.2
    have j2:=Q4.out.2.1
    have j3:=mI_eq C5.out.ip
    have j4:=C5.out.ip.2.2.2.1
    omega
  ·go_returns
   have e:Z=(nms,q):=by rw [H.out.2,ps.namesF,J.out.1];rfl
   refine ⟨C3.out.fq,.inl ⟨by rw [K.out.2.1,e];exact C3.out.ip.2.2.2.2,_,rfl,?_,K.out.2.2 _ (by rw [e];exact C3.out.ip)⟩⟩
   rw [K.out.1,e]
   obtain ⟨M,h1,h2,h3⟩:=C3.out.mid
   exact (h2.lk (lk_bare _ _)).wide (Nat.le_refl _) (Chain.le h3)
end ip
namespace ip
open Go.RowKit bts nod lex tk vt
open ps (En Ps isP kindP now wrong want got nameT nameS textOf over up_fq own_far bel_alloc pz need need_or cOk ends names starts named bare longer namesF)
def tl (l:List (List Int)):Nat:=(l.map List.length).sum
theorem lens_tl (l:List (List Int)):∀k,k≤l.length→lens l k=tl (l.take k):=by
 intro k
 induction k with
 |zero=>intro _;rfl
 |succ k ih =>
  intro h
  rfl
theorem size_tl (l:List (List Int)):sizeSS l=l.length+tl l:=by unfold sizeSS;rw [lens_tl l _ (Nat.le_refl _),List.take_length]
def off (E:En) (k:Nat):Nat:=(tok E k).2.1
theorem toks_next {zs:List Int}:∀{T:List (Int×Nat×Nat)} {e k:Nat},Toks zs e T→k+1<T.length→(T.getD k (0,0,0)).2.1+(T.getD k (0,0,0)).2.2≤(T.getD (k+1) (0,0,0)).2.1
 |[],_,_,_,h=>absurd h (by simp)
 |[_],_,_,_,h=>absurd h (by simp)
 |(_,_,_)::(_,_,_)::_,_,0,⟨_,_,_,_,_,_,h6⟩,_=>h6.1
 |(_,_,_)::x::r,_,k+1,⟨_,_,_,_,_,_,h6⟩,h=>toks_next (T:=x::r) (k:=k) h6 (by simpa using h)
theorem off_step {E:En} (hI:Ir E) {k:Nat} (h:k<E.T.length):off E k+(tok E k).2.2≤off E (k+1):=by
 unfold off
 rcases Nat.lt_or_ge (k+1) E.T.length with h1|h1
 ·rw [tok_lt h,tok_lt h1];exact toks_next hI.ord h1
 ·rw [show k+1=E.T.length by omega,tok_end];exact hI.fits (by omega)
theorem off_le {E:En} (hI:Ir E) {k:Nat} (h:k≤E.T.length):off E k≤E.zs.length:=by have:=hI.fits h;unfold off;omega
theorem name_len {E:En} (hI:Ir E) {s:Ps} (h:s.at_≤E.T.length):(nameT E.zs E.T s).length+off E s.at_≤off E (nameS E.zs E.T s).at_∧(nameS E.zs E.T s).at_≤E.T.length:=by
 unfold ps.nameT ps.nameS
 by_cases hk:kindP E.T s=1
 ·have hk2:=ps.kind_bad hk (by decide)
  rw [if_pos hk,if_pos hk]
  have e:now E.zs E.T s=strOfNums (lex.part E.zs (tok E s.at_).2.1 (tok E s.at_).2.2):=by
   unfold ps.now
   rw [tok_lt hk2.2,ps.over_no (by omega) hk2.2];rfl
  rw [e,nums_str (lex.part_bts hI.bts _ _),lex.part_len (hI.fits h)]
  have:=off_step hI hk2.2
  exact ⟨by show _≤off E (s.at_+1);omega,hk2.2⟩
 ·rw [if_neg hk,if_neg hk,wrong_at.1]
  exact ⟨by simp,h⟩
theorem tl_app (a:List (List Int)) (b:List Int):tl (a++[b])=tl a+b.length:=by simp [tl]
theorem namesF_size {E:En} (hI:Ir E):∀(f:Nat) (s:Ps) (out:List (List Int)),s.at_≤E.T.length→tl (namesF E.zs E.T f s out).1+off E s.at_≤tl out+off E (namesF E.zs E.T f s out).2.at_∧(namesF E.zs E.T f s out).2.at_≤E.T.length
 |0,_,_,h=>⟨Nat.le_refl _,h⟩
 |f+1,s,out,h=>by
  rw [namesF]
  split
  ·rename_i hi
   have hi:isP E.zs E.T s {data:=#[44]}=true:=hi
   have ge:=(ps.got_yes hi).1
   have hl:=(ps.is_bad hi).2
   have h1:=off_step hI hl
   rw [← ge] at h1
   obtain ⟨h2,h3⟩:=name_len hI (s:=got E.zs E.T s {data:=#[44]}) (by omega)
   have:=namesF_size hI f _ (out++[nameT E.zs E.T (got E.zs E.T s {data:=#[44]})]) h3
   rw [tl_app] at this
   exact ⟨by omega,this.2⟩
  ·exact ⟨Nat.le_refl _,h⟩
theorem names_size {E:En} (hI:Ir E) {s:Ps} (h:s.at_≤E.T.length) (hb:(names E.zs E.T s).2.bad<0):sizeSS (names E.zs E.T s).1≤20000∧(names E.zs E.T s).2.at_≤E.T.length:=by
 have hM:=hI.many
 have hz:=hI.size
 obtain ⟨h2,h3⟩:=name_len hI h
 have h4:=namesF_size hI (E.T.length+1) (nameS E.zs E.T s) [nameT E.zs E.T s] h3
 have h5:(nameS E.zs E.T s).at_=s.at_+1:=by
  rcases ps.name_f E.zs E.T s with ⟨a,_⟩|⟨_,a⟩
  ·exact a
  ·exfalso
   have:(names E.zs E.T s).2.bad=(nameS E.zs E.T s).bad:=by unfold ps.names;rw [namesF_off _ _ _ a];rfl
   omega
 have h6:=names_len E.zs E.T (E.T.length+1) (nameS E.zs E.T s) [nameT E.zs E.T s] (by simp;omega)
 have e:tl [nameT E.zs E.T s]=(nameT E.zs E.T s).length:=by simp [tl]
 rw [size_tl]
 show (namesF E.zs E.T (E.T.length+1) (nameS E.zs E.T s) [nameT E.zs E.T s]).1.length+tl (namesF E.zs E.T (E.T.length+1) (nameS E.zs E.T s) [nameT E.zs E.T s]).1≤20000∧(namesF E.zs E.T (E.T.length+1) (nameS E.zs E.T s) [nameT E.zs E.T s]).2.at_≤E.T.length
 have h7:=off_le hI h4.2
 omega
section
variable {E:En} {w W W':World} {g m:Nat} {un v x u:Value} {nms:List (List Int)} {us xs:List Value} {ks ls:List (List Nd)} {s s':Ps} {l:List Nd} {tx:List Int}
theorem OwTT.veil {V:Nat→Bool} {B M:Nat} {l:List (List Int)} (h:OwTT W B M u l) (hV:∀b,B≤b→V b=false):OwTT (veil V W) B M u l:=by
 obtain ⟨us,a,b,c,d⟩:=h
 refine ⟨us,own_veil a (fun b e=>hV b (a.lt b e).1),b,fun i hi=>?_,d⟩
 obtain ⟨u,e,ho⟩:=c i hi
 exact ⟨u,e,ho.veil hV⟩
theorem Cz.names (C:Cz E w g nil [] nil 0 [] [] W s):Calls Tryz.prog 118 #[.pointer (some ⟨g,0,none⟩)] W fun e w'=>((ps.names E.zs E.T s).2.bad<0∧s.at_≤(ps.names E.zs E.T s).2.at_∧∃a c,e=.returned (.slice a (ps.names E.zs E.T s).1.length c)∧Cz E w g (.slice a (ps.names E.zs E.T s).1.length c) (ps.names E.zs E.T s).1 nil 0 [] [] w' (ps.names E.zs E.T s).2)∨(0≤(ps.names E.zs E.T s).2.bad∧e=.panicked (flt (ps.names E.zs E.T s).2.bad)∧Fq g w w') :=
 (names_any C.ir C.ip).mono (by
  rintro e w' ⟨hF,⟨hb,v,rfl,h1,h2⟩|⟨hb,rfl⟩⟩
  ·obtain ⟨a,c,rfl⟩:=h1.slice
   refine .inl ⟨hb,(ps.names_f _ _ _).1,a,c,rfl,C.ir,h2,C.fq.trans hF,C.hg,World.ownsRow_nil _ _ _ _,w'.heap.size,?_,?_,rfl,Nat.le_refl _⟩
   ·have:=C.sz
    have:=hF.below.size
    omega
   ·exact (h1.veil (fun b hb=>by have:=C.sz;simp [hr,tk.lt,Value.ownBlock];omega)).wide C.sz (Nat.le_refl _)
  ·exact .inr ⟨hb,rfl,C.fq.trans hF⟩)
theorem Cz.bod (C:Cz E w g un nms v m us ks W s) (hI:Ir E) {f:Nat} (A:Ia E f) (lp:Bool) {t:ByteArray} (hl:isLit t=true) (ht:t={data:=#[101,110,100]}∨t={data:=#[101,108,115,101]}∨t={data:=#[101,108,115,101,105,102]}∨t={data:=#[117,110,116,105,108]}) (hn:need E.T 11 s≤f) :
  Calls Tryz.prog 104 #[.pointer (some ⟨g,0,none⟩),.bool lp,.string t] W fun e w'=>((want E.zs E.T (sl (pz E.zs E.T f 11 0 [] (sl s lp)).2.2 s.loop) t).bad<0∧s.at_<(want E.zs E.T (sl (pz E.zs E.T f 11 0 [] (sl s lp)).2.2 s.loop) t).at_∧∃T gg l,e=.returned (.iface T (.pointer (some ⟨gg,0,none⟩)))∧(pz E.zs E.T f 11 0 [] (sl s lp)).1=[l]∧Cz E w g un nms v m (us++[.iface T (.pointer (some ⟨gg,0,none⟩))]) (ks++[l]) w' (want E.zs E.T (sl (pz E.zs E.T f 11 0 [] (sl s lp)).2.2 s.loop) t)) ∨
   (0≤(want E.zs E.T (sl (pz E.zs E.T f 11 0 [] (sl s lp)).2.2 s.loop) t).bad∧e=.panicked (flt (want E.zs E.T (sl (pz E.zs E.T f 11 0 [] (sl s lp)).2.2 s.loop) t).bad)∧Fq g w w') :=
 (body_any hI A lp t hl ht s hn W g C.ip).mono (by
  rintro e w' ⟨hF,⟨hb,u,rfl,l,h1,h2,h3⟩|⟨hb,rfl⟩⟩
  ·obtain ⟨T,gg,rfl⟩:=h2.isI
   refine .inl ⟨hb,?_,T,gg,l,rfl,h1,C.push hF h3 h2⟩
   rcases ps.want_f E.zs E.T (sl (pz E.zs E.T f 11 0 [] (sl s lp)).2.2 s.loop) t with ⟨a,_⟩|⟨_,a⟩
   ·have:=blk_at (E:=E) (lp:=lp) hn
    have a:_=(pz E.zs E.T f 11 0 [] (sl s lp)).2.2.at_+1:=a
    omega
   ·have hb:(want E.zs E.T (sl (pz E.zs E.T f 11 0 [] (sl s lp)).2.2 s.loop) t).bad<0:=hb
    omega
  ·exact .inr ⟨hb,rfl,C.fq.trans hF⟩)
end
theorem fun_next {E:En} (hI:Ir E) {f:Nat} (A:Ia E f) (s:Ps) (hn:need E.T 8 s≤f+1):Nod E 117 ag1 s (pz E.zs E.T (f+1) 8 0 [] s):=by
 intro w g hP
 have C:Hid (Cz E w g nil [] nil 0 [] [] w s):=Cz.start hI hP
 have K:Hid (20*(E.T.length-s.at_)+3≤f+1∧s.at_≤E.T.length∧s.bad<0):=⟨by rw [need_ok 8 hP.2.2.2.2] at hn;exact hn,hP.2.2.2.1,hP.2.2.2.2⟩
 have HA:Hid (Ia E f):=A
 clear hn hI A hP
 unfold ag1
 go_enter Tryz.func117,Tryz.ntmps117
 go_wp2_with (first
  |(go_at_call 106;refine (C.out.expect (by kernel_rfl)).mono ?_;rintro e w1 (⟨hb,ha,⟨u,rfl⟩,hC⟩|⟨hb,rfl,hF⟩);rotate_left;exact ⟨rfl,dead hF hb (by have k:=K.out;simp (maxDischargeDepth:=20) only [p8,prm,k,is_off,want_bd,names_off,name_bd,pz_off,sl_bad,hb,if_true,if_false,Bool.false_eq_true])⟩;replace C:Hid _:=hC;replace K:Hid (_∧_∧_):=⟨hb,ha,K.out⟩;clear hC hb ha)
  |(go_at_call 81;refine (C.out.sees (by kernel_rfl)).mono ?_;rintro e w1 (⟨hb,rfl,hC⟩|⟨hb,rfl,hC⟩) <;> (replace C:Hid _:=hC) <;> (replace K:Hid (_∧_):=⟨hb,K.out⟩) <;> clear hC hb)
  |(go_at_call 118;refine (C.out.names).mono ?_;rintro e w1 (⟨hb,ha,a1,c1,rfl,hC⟩|⟨hb,rfl,hF⟩);rotate_left;exact ⟨rfl,dead hF hb (by have k:=K.out;simp (maxDischargeDepth:=20) only [p8,prm,k,is_off,want_bd,names_off,name_bd,pz_off,sl_bad,hb,if_true,if_false,Bool.false_eq_true])⟩;replace C:Hid _:=hC;replace K:Hid (_∧_∧_):=⟨hb,ha,K.out⟩;clear hC hb ha)
  |(go_at_call 104;refine (C.out.bod C.out.ir HA.out false (by kernel_rfl) (.inl rfl) (by have k:=K.out;have c:=C.out.ip.2.2.2;rw [need_ok _ c.2];simp only [cOk];omega)).mono ?_;rintro e w1 (⟨hb,ha,T1,g1,l1,rfl,hl,hC⟩|⟨hb,rfl,hF⟩);rotate_left;exact ⟨rfl,dead hF hb (by have k:=K.out;simp (maxDischargeDepth:=20) only [p8,prm,k,is_off,want_bd,names_off,name_bd,pz_off,sl_bad,hb,if_true,if_false,Bool.false_eq_true])⟩;simp only [List.nil_append,List.cons_append] at hC;replace C:Hid _:=hC;replace K:Hid (_∧_∧_∧_):=⟨hb,ha,hl,K.out⟩;clear hC hb ha hl)
  |(go_at_call 84;refine (C.out.lit rfl (by simp) (by decide) (by decide) (by first|decide|(have k:=K.out;have c:=C.out.ip.2.2.2.1;exact Nat.le_trans (names_size C.out.ir (by omega) (by simp only [k])).1 (by decide)))).mono ?_;rintro e w1 ⟨T1,g1,rfl,hC,hF⟩;replace C:Hid _:=hC;clear hC hF))
 all_goals
  go_returns
  exact C.out.done (by have k:=K.out;simp only [p8,prm,k,if_true,if_false,Bool.false_eq_true] <;> rfl) (by have k:=K.out;simp only [p8,prm,k,if_true,if_false,Bool.false_eq_true])
end ip
namespace ip
open Go.RowKit bts nod lex tk vt
open ps (En Ps isP kindP now wrong want got nameT nameS textOf over up_fq own_far bel_alloc pz need need_or cOk ends names starts named bare longer)
theorem info_n:(Tryz.prog.info? 49).map (fun i=>(i.zero,i.size,i.bytes))=some (some .nilIface,1,16):=by kernel_rfl
section
variable {E:En} {w W W':World} {g m:Nat} {un v x u:Value} {nms:List (List Int)} {us xs:List Value} {ks ls:List (List Nd)} {s s':Ps} {l:List Nd}
theorem Ip.below (h:Ip E W g s) (hb:Below w.heap.size W W') (hg:g<w.heap.size):Ip E W' g s :=
 ⟨h.1.trans (hb.mono (by have:=h.2.1;omega)),h.2.1,h.2.2.1.below hb hg,h.2.2.2⟩
theorem fq_below (h:Fq g w W) (hb:Below w.heap.size W W') (hg:g<w.heap.size):Fq g w W' :=
 ⟨h.below.trans (hb.mono (by omega)),fun b hl hne=>(hb.block b hl).trans (h.keep b hl hne)⟩
theorem Cz.append (C:Cz E w g un nms v m (us++xs) ks W s) {W1:World} {ao ao2:Option Addr} {n c m2 c2:Nat} (hv:v=.slice ao n c) (hm:m=n) (hu:us.length=n) (hB:Below W.heap.size W W1) (hx:xs.length=m2) (hr2:0<m2→∃ad,ao2=some ad∧∀j u,xs[j]?=some u→W1.cell? (ad.add j)=some u) (hb:n+m2≤100000) (ty:TypeId) :
  ∃a' c' w',(Builtin.append_ #[133,133] ty #[.slice ao n c,.slice ao2 m2 c2]).run Tryz.prog W1=.ok (.slice a' (n+m2) c') w'∧Cz E w g un nms (.slice a' (n+m2) c') (n+m2) (us++xs) ks w' s:=by
 subst hv hm hu hx
 obtain ⟨i0,hi0,hz0,hz1,hz2⟩:=info_parts info_n
 have s1:=C.sz
 have s2:=hB.size
 have hg:=C.hg
 have row:=C.row
 rw [List.take_left' rfl] at row
 have q1:W1.ownsRow w.heap.size 49 1 (.slice ao us.length c) us.length us:=own_far row (fun b e=>hB.block b (row.lt b e).2)
 obtain ⟨M,m1,m2,m3⟩:=C.mid
 have hone:∀y∈xs,y.oneCell'=true:=fun y hy=>Kv.one m3 y (List.mem_append_right _ hy)
 obtain ⟨a',c',w',e1,e2⟩:=run_append_row W1 133 ty 49 i0 .nilIface 1 16 Tryz.underlying133 hi0 hz0 hz1 hz2 rfl (by omega) w.heap.size ao us.length c us q1 ao2 xs.length c2 xs (by omega) hr2 hone (by unfold maxLen;omega) (by omega) (by omega)
 have b1:Below w.heap.size W w':=(hB.mono s1).grown e2.grow (by omega) (fun k hk=>(q1.lt k hk).1)
 have g1:=e2.grow.size
 have hL:Lk (veil (hr w (.slice ao us.length c)) W) (veil (hr w (.slice a' (us.length+xs.length) c')) w'):=by
  have u1:Up (hr w (.slice ao us.length c)) W w':=⟨by omega,fun b hb hl=>by
   rw [e2.grow.block b (by omega) (fun e=>by
    simp only [hr,Bool.or_eq_false_iff,decide_eq_false_iff_not] at hb
    exact hb.2 e.symm)]
   exact hB.block b hl⟩
  have k1:=lk_up u1
  have k2:∀b,b<W.heap.size→hr w (.slice ao us.length c) b=false→hr w (.slice a' (us.length+xs.length) c') b=false:=fun b hl hb=>by
   simp only [hr,Bool.or_eq_false_iff,decide_eq_false_iff_not] at hb ⊢
   refine ⟨hb.1,fun e=>?_⟩
   rcases e2.lies with ⟨e3,_⟩|⟨g',e3,e4|e4⟩
   ·subst e3
    apply hb.2
    cases a' with
    |none=>cases e
    |some y=>exact e
   ·subst e3
    simp only [Value.ownBlock,Option.some.injEq] at e
    rw [← e] at hb
    exact hb.2 e4
   ·subst e3
    simp only [Value.ownBlock,Option.some.injEq] at e
    omega
  refine ⟨fun b o h=>?_,fun a y h=>?_⟩
  ·have h1:=k1.1 b o h
   have hl:b<W.heap.size:=by have:=heap_lt h;rwa [veil_size] at this
   have hv:hr w (.slice ao us.length c) b=false:=by
    rw [veil_get] at h
    cases hz:W.heap[b]? with
    |none=>rw [hz] at h;cases h
    |some z =>
     rw [hz] at h
     cases hq:hr w (.slice ao us.length c) b with
     |true=>rw [hq] at h;simp at h
     |false=>rfl
   rw [veil_get] at h1 ⊢
   rw [hv] at h1
   rw [k2 b hl hv]
   exact h1
  ·obtain ⟨h2,h3⟩:=veil_cell h
   have h4:=(veil_cell (k1.2 a y h)).1
   exact cell_veil h4 (k2 _ (World.block_lt_of_cell? _ _ h2) h3)
 refine ⟨a',c',w',e1,C.ir,C.ip.below b1 hg,fq_below C.fq b1 hg,hg,?_,M,m1,m2.lk hL,(m3.lk hL).wide (Nat.le_refl _) (by omega)⟩
 rw [List.take_of_length_le (by rw [List.length_append];omega)]
 exact e2.own
theorem wpList_row {ops:Array Oper} {rest:List Oper} {o:Oper} {a:Act} {K:Exit→Act→World→Prop} {w3:World} (hgd:o.guard=none) (sv xv:Operand)
  (ho:o.op=.call {callee:=.builtin .append,args:=#[sv,xv],argTypes:=#[133,133]})
  {ao:Option Addr} {n c m2:Nat} (us xs:List Value) (C:Cz E w g un nms (.slice ao n c) n (us++xs) ks W s) (hu:us.length=n) (hx:xs.length=m2)
  (hs:a.eval sv=.slice ao n c) (hxe:a.eval xv=.slice (some ⟨W.heap.size,0,none⟩) m2 m2) (hW:w3=W.alloc (.cells xs.toArray 49)) (hm:n+m2≤100000)
  (h:∀a' c' w',Cz E w g un nms (.slice a' (n+m2) c') (n+m2) (us++xs) ks w' s→wpList Tryz.prog ops K rest (a.put o.dst (.slice a' (n+m2) c')) w'):wpList Tryz.prog ops K (o::rest) a w3:=by
 subst hW
 refine wpList_plain hgd fun K' hK'=>?_
 obtain ⟨a',c',w',e1,e2⟩:=C.append (W1:=W.alloc (.cells xs.toArray 49)) (ao2:=some ⟨W.heap.size,0,none⟩) (c2:=m2) rfl rfl hu (bel_alloc _ _) hx (fun _=>⟨_,rfl,fun j u hu=>by
  rw [plainAt,Nat.zero_add]
  unfold World.cell?
  rw [heap_alloc_new]
  simpa using hu⟩) hm o.type
 unfold Oper.wp execOp
 simp only [ho,resolve,invoke,builtin,Sem.run_bind,Sem.run_pure,Result.andThen_ok,List.map_toArray,List.map_cons,List.map_nil,hs,hxe,e1]
 exact hK' _ _ (h a' c' w' e2)
theorem wpList_rows {ops:Array Oper} {rest:List Oper} {o:Oper} {a:Act} {K:Exit→Act→World→Prop} (hgd:o.guard=none) (sv xv:Operand)
  (ho:o.op=.call {callee:=.builtin .append,args:=#[sv,xv],argTypes:=#[133,133]})
  {ao ao2:Option Addr} {n c m2 c2 B:Nat} (us xs:List Value) (C:Cz E w g un nms (.slice ao n c) n (us++xs) ks W s) (hu:us.length=n) (hx:W.ownsRow B 49 1 (.slice ao2 m2 c2) m2 xs)
  (hs:a.eval sv=.slice ao n c) (hxe:a.eval xv=.slice ao2 m2 c2) (hm:n+m2≤100000)
  (h:∀a' c' w',Cz E w g un nms (.slice a' (n+m2) c') (n+m2) (us++xs) ks w' s→wpList Tryz.prog ops K rest (a.put o.dst (.slice a' (n+m2) c')) w'):wpList Tryz.prog ops K (o::rest) a W:=by
 refine wpList_plain hgd fun K' hK'=>?_
 obtain ⟨a',c',w',e1,e2⟩:=C.append (ao2:=ao2) (c2:=c2) rfl rfl hu (Below.refl _ _) (by have:=hx.1;omega) (fun h0=>by
  rcases hx.2 with ⟨e,e'⟩|⟨gg,cap,cur,e,_⟩
  ·omega
  ·simp only [Value.slice.injEq] at e
   obtain ⟨rfl,_,rfl⟩:=e
   exact ⟨_,rfl,hx.cells rfl⟩) hm o.type
 unfold Oper.wp execOp
 simp only [ho,resolve,invoke,builtin,Sem.run_bind,Sem.run_pure,Result.andThen_ok,List.map_toArray,List.map_cons,List.map_nil,hs,hxe,e1]
 exact hK' _ _ (h a' c' w' e2)
theorem Cz.rowLit (C:Cz E w g un nms nil 0 us ks W s) (hl:us.length≤100000):Cz E w g un nms (.slice (some ⟨W.heap.size,0,none⟩) us.length us.length) us.length us ks (W.alloc (.cells us.toArray 49)) s:=by
 have hB:=bel_alloc W (.cells us.toArray 49)
 have s1:=C.sz
 have es:=World.size_alloc W (.cells us.toArray 49)
 obtain ⟨M,m1,m2,m3⟩:=C.mid
 have hF:Fq g W (W.alloc (.cells us.toArray 49)):=.of (Nat.le_of_lt C.ip.lt) hB
 have a1:=C.lk hF
 have hL:Lk (veil (hr w nil) W) (veil (hr w (.slice (some ⟨W.heap.size,0,none⟩) us.length us.length)) (W.alloc (.cells us.toArray 49))):=by
  have k2:∀b,b<W.heap.size→hr w nil b=false→hr w (.slice (some ⟨W.heap.size,0,none⟩) us.length us.length) b=false:=fun b hl hb=>by
   simp only [hr,Bool.or_eq_false_iff,decide_eq_false_iff_not] at hb ⊢
   exact ⟨hb.1,fun e=>by simp only [Value.ownBlock,Option.some.injEq] at e;omega⟩
  refine ⟨fun b o h=>?_,fun a y h=>?_⟩
  ·have h1:=a1.1 b o h
   have hl:b<W.heap.size:=by have:=heap_lt h;rwa [veil_size] at this
   have hv:hr w nil b=false:=by
    rw [veil_get] at h
    cases hz:W.heap[b]? with
    |none=>rw [hz] at h;cases h
    |some z =>
     rw [hz] at h
     cases hq:hr w nil b with
     |true=>rw [hq] at h;simp at h
     |false=>rfl
   rw [veil_get] at h1 ⊢
   rw [hv] at h1
   rw [k2 b hl hv]
   exact h1
  ·obtain ⟨h2,h3⟩:=veil_cell h
   have h4:=(veil_cell (a1.2 a y h)).1
   exact cell_veil h4 (k2 _ (World.block_lt_of_cell? _ _ h2) h3)
 refine ⟨C.ir,C.ip.keep hB,C.fq.trans hF,C.hg,?_,M,m1,m2.lk hL,(m3.lk hL).wide (Nat.le_refl _) (by omega)⟩
 rw [List.take_of_length_le (Nat.le_refl _)]
 exact ⟨by omega,.inr ⟨W.heap.size,us.length,us.toArray,rfl,s1,heap_alloc_new _ _,Nat.le_refl _,by unfold maxLen;omega,by simp,by simp⟩⟩
theorem Cz.rowLit1 (C:Cz E w g un nms nil 0 [x] [l] W s):Cz E w g un nms (.slice (some ⟨W.heap.size,0,none⟩) 1 1) 1 [x] [l] (W.alloc (.cells #[x] 49)) s:=C.rowLit (by simp)
theorem Cz.foldR {ao:Option Addr} {n c:Nat} (C:Cz E w g un nms (.slice ao n c) n us ks W s) (hu:us.length=n) {kd nn:Int} (hm:n≤1048576) (hk:0≤kd∧kd≤26) (hv:-9223372036854775808≤nn∧nn≤9223372036854775807) (hsz:sizeSS nms≤1048576) :
  Calls Tryz.prog 84 #[.agg #[.int .i64 kd,.int .i64 nn,nil,un,.int .i64 0],.slice ao n c] W fun e w'=>∃T gg,e=.returned (.iface T (.pointer (some ⟨gg,0,none⟩)))∧Cz E w g nil [] nil 0 [.iface T (.pointer (some ⟨gg,0,none⟩))] [tk.node ⟨kd,nn,[],nms,0⟩ ks] w' s∧Fq g W w':=by
 have row:=C.row
 have hl:=C.len
 rw [List.take_of_length_le (by omega)] at row
 have hcap:n≤c∧c≤9223372036854775807:=by
  rcases row.2 with ⟨e,_⟩|⟨_,_,_,e,_,_,h1,h2,_⟩
  ·simp only [Value.slice.injEq] at e;omega
  ·simp only [Value.slice.injEq] at e
   obtain ⟨_,_,rfl⟩:=e
   unfold maxLen at h2
   exact ⟨h1,by omega⟩
 refine C.fold (Below.refl _ _) (by omega) ⟨hcap.1,hcap.2,hm⟩ (fun k u hu=>?_) ⟨kd,nn,[],nms,0⟩ ⟨hk.1,hk.2,hv⟩ rfl rfl hsz
 rcases row.2 with ⟨e,e2⟩|⟨gg,cap,cur,e,hb,_⟩
 ·have:us=[]:=List.length_eq_zero_iff.1 (by omega)
  rw [this] at hu
  simp at hu
 ·simp only [Value.slice.injEq] at e
  obtain ⟨rfl,_,rfl⟩:=e
  refine ⟨gg,0,rfl,?_,hb⟩
  have:=row.cells rfl k u hu
  rwa [plainAt] at this
theorem Cz.retR {ao:Option Addr} {n c:Nat} (C:Cz E w g nil [] (.slice ao n c) n us ks W s) (hu:us.length=n) {ks':List (List Nd)} {s':Ps} (h1:ks'=ks) (h2:s'.bad<0) (h3:Ip E W g s') (h4:n≤s'.at_+1):Pk E ks' s' g w (.returned (.slice ao n c)) W:=by
 have row:=C.row
 rw [List.take_of_length_le (by omega)] at row
 obtain ⟨M,m1,_,m3⟩:=C.mid
 subst h1 hu
 exact ⟨C.fq,.inl ⟨h2,_,rfl,ao,c,us,rfl,row,m3.wide m1 (Nat.le_refl _),h4,h3⟩⟩
theorem dk {ks':List (List Nd)} {s':Ps} {b:Int} (hF:Fq g w W) (hb:0≤b) (h:s'.bad=b):Pk E ks' s' g w (.panicked (flt b)) W:=⟨hF,.inr ⟨by omega,by rw [h]⟩⟩
theorem Cz.list (C:Cz E w g un nms v m us ks W s) {fn:Nat} {ag:Nat→Array Value} {ls:List (List Nd)} {s':Ps} (hD:∀(w:World) (g:Nat),Ip E w g s→Calls Tryz.prog fn (ag g) w (Pk E ls s' g w)) (hat:s.at_≤s'.at_) :
  Calls Tryz.prog fn (ag g) W fun e w'=>(s'.bad<0∧s.at_≤s'.at_∧∃a c xs,e=.returned (.slice a xs.length c)∧w'.ownsRow W.heap.size 49 1 (.slice a xs.length c) xs.length xs∧xs.length≤s'.at_+1∧Cz E w g un nms v m (us++xs) (ks++ls) w' s')∨(0≤s'.bad∧e=.panicked (flt s'.bad)∧Fq g w w') :=
 (hD W g C.ip).mono (by
  rintro e w' ⟨hF,⟨hb,u,rfl,a,c,xs,rfl,h1,h2,h4,h3⟩|⟨hb,rfl⟩⟩
  ·exact .inl ⟨hb,hat,a,c,xs,rfl,h1,h4,C.pushes hF h3 (h2.lk (lk_veils fun b _ h=>by simp only [hr,Bool.or_eq_false_iff] at h;exact h.1))⟩
  ·exact .inr ⟨hb,rfl,C.fq.trans hF⟩)
theorem Cz.listR (C:Cz E w g un nms nil 0 [] [] W s) {fn:Nat} {ag:Nat→Array Value} {ls:List (List Nd)} {s':Ps} (hD:∀(w:World) (g:Nat),Ip E w g s→Calls Tryz.prog fn (ag g) w (Pk E ls s' g w)) (hat:s.at_≤s'.at_) :
  Calls Tryz.prog fn (ag g) W fun e w'=>(s'.bad<0∧s.at_≤s'.at_∧∃a c xs,e=.returned (.slice a xs.length c)∧xs.length≤s'.at_+1∧Cz E w g un nms (.slice a xs.length c) xs.length xs ls w' s')∨(0≤s'.bad∧e=.panicked (flt s'.bad)∧Fq g w w') :=
 (hD W g C.ip).mono (by
  rintro e w' ⟨hF,⟨hb,u,rfl,a,c,xs,rfl,h1,h2,h4,h3⟩|⟨hb,rfl⟩⟩
  ·refine .inl ⟨hb,hat,a,c,xs,rfl,h4,C.ir,h3,C.fq.trans hF,C.hg,?_,?_⟩
   ·rw [List.take_of_length_le (Nat.le_refl _)];exact own_base h1 C.sz
   ·obtain ⟨M,m1,m2,m3⟩:=C.mid
    have s1:=C.sz
    have s2:M≤W.heap.size:=Chain.le m3
    have hL:Lk (veil (hr w nil) W) (veil (hr w (.slice a xs.length c)) w'):=by
     have a1:=C.lk hF
     have k2:∀b,b<W.heap.size→hr w nil b=false→hr w (.slice a xs.length c) b=false:=fun b hl hb=>by
      simp only [hr,Bool.or_eq_false_iff,decide_eq_false_iff_not] at hb ⊢
      exact ⟨hb.1,fun e=>by have:=(h1.lt b e).1;omega⟩
     refine ⟨fun b o h=>?_,fun y z h=>?_⟩
     ·have q1:=a1.1 b o h
      have hl:b<W.heap.size:=by have:=heap_lt h;rwa [veil_size] at this
      have hv:hr w nil b=false:=by
       rw [veil_get] at h
       cases hz:W.heap[b]? with
       |none=>rw [hz] at h;cases h
       |some z =>
        rw [hz] at h
        cases hq:hr w nil b with
        |true=>rw [hq] at h;simp at h
        |false=>rfl
      rw [veil_get] at q1 ⊢
      rw [hv] at q1
      rw [k2 b hl hv]
      exact q1
     ·obtain ⟨q2,q3⟩:=veil_cell h
      have q4:=(veil_cell (a1.2 y z h)).1
      exact cell_veil q4 (k2 _ (World.block_lt_of_cell? _ _ q2) q3)
    refine ⟨M,m1,m2.lk hL,(h2.lk (lk_veils fun b _ h=>?_)).wide s2 (Nat.le_refl _)⟩
    simp only [hr,tk.lt,Bool.or_eq_false_iff,decide_eq_false_iff_not] at h ⊢
    exact ⟨by omega,h.2⟩
  ·exact .inr ⟨hb,rfl,C.fq.trans hF⟩)
end
end ip
namespace ip
open Go.RowKit bts nod lex tk vt
open ps (En Ps isP kindP now wrong want got nameT nameS textOf over up_fq own_far bel_alloc pz need need_or cOk ends names starts named bare longer)
theorem exs_next {E:En} (hI:Ir E) {f:Nat} (A:∀m,m≤f→Ia E m) (s:Ps) (hn:need E.T 6 s≤f+1) (w:World) (g:Nat) (hP:Ip E w g s):Calls Tryz.prog 119 (ag1 g) w (Pk E (pz E.zs E.T (f+1) 6 0 [] s).1 (pz E.zs E.T (f+1) 6 0 [] s).2.2 g w):=by
 have C:Hid (Cz E w g nil [] nil 0 [] [] w s):=Cz.start hI hP
 have HI:Hid (Ir E):=hI
 have HA:Hid (∀m,m≤f→Ia E m):=A
 have HM:E.T.length≤6000:=hI.many
 have K:Hid (20*(E.T.length-s.at_)+7≤f+1∧s.at_≤E.T.length∧s.bad<0):=⟨by rw [need_ok 6 hP.2.2.2.2] at hn;exact hn,hP.2.2.2.1,hP.2.2.2.2⟩
 have J:Hid ((pz E.zs E.T (f+1) 6 0 [] s).1=(pz E.zs E.T f 7 0 (pz E.zs E.T f 0 1 [] s).1 (pz E.zs E.T f 0 1 [] s).2.2).1∧(pz E.zs E.T (f+1) 6 0 [] s).2.2.bad=(pz E.zs E.T f 7 0 (pz E.zs E.T f 0 1 [] s).1 (pz E.zs E.T f 0 1 [] s).2.2).2.2.bad∧∀W,Ip E W g (pz E.zs E.T f 7 0 (pz E.zs E.T f 0 1 [] s).1 (pz E.zs E.T f 0 1 [] s).2.2).2.2→Ip E W g (pz E.zs E.T (f+1) 6 0 [] s).2.2∧(pz E.zs E.T (f+1) 6 0 [] s).2.2.at_=(pz E.zs E.T f 7 0 (pz E.zs E.T f 0 1 [] s).1 (pz E.zs E.T f 0 1 [] s).2.2).2.2.at_):=⟨rfl,rfl,fun _ h=>⟨h,rfl⟩⟩
 generalize (pz E.zs E.T (f+1) 6 0 [] s)=r at J ⊢
 clear hn hI A hP
 unfold ag1
 go_enter Tryz.func119,Tryz.ntmps119
 go_wp2_with (go_at_call 105;refine (C.out.cal (by decide) (expr_any HI.out (HA.out f (Nat.le_refl _)) _) (by have k:=K.out;have c:=C.out.ip.2.2.2;rw [need_ok _ c.2];simp only [cOk];omega)).mono ?_;rintro e w1 (⟨hb,ha,T1,g1,l1,rfl,hl,hC⟩|⟨hb,rfl,hF⟩);rotate_left;exact ⟨rfl,dk hF hb (by rw [J.out.2.1,pz_off _ _ _ _ _ hb])⟩;simp only [List.nil_append] at hC;have C1:Hid _:=hC;replace K:Hid (_∧_∧_∧_):=⟨hb,ha,hl,K.out⟩;clear C hC hb ha hl)
 have X:Hid (∃m,m≤f∧20*(E.T.length-(pz E.zs E.T f 0 1 [] s).2.2.at_)+6≤m∧pz E.zs E.T f 7 0 (pz E.zs E.T f 0 1 [] s).1 (pz E.zs E.T f 0 1 [] s).2.2=pz E.zs E.T m 7 0 [l1] (pz E.zs E.T f 0 1 [] s).2.2):=⟨f,Nat.le_refl _,(by have k:=K.out;have c:=C1.out.ip.2.2.2;omega),by rw [K.out.2.2.1]⟩
 have C2:Hid _:=C1.out.rowLit (by simp)
 generalize pz E.zs E.T f 7 0 (pz E.zs E.T f 0 1 [] s).1 (pz E.zs E.T f 0 1 [] s).2.2=Z at J X
 clear C1 K
 go_loopw [3] (fun v wr=>∃(m n:Nat) (us:List Value) (ks:List (List Nd)) (q:Ps) (a:Option Addr) (c:Nat),v=.slice a n c∧Hid (us.length=n)∧Hid (Cz E w g nil [] (.slice a n c) n us ks wr q)∧Hid (m≤f∧20*(E.T.length-q.at_)+6≤m∧Z=pz E.zs E.T m 7 0 ks q)∧n≤q.at_+1) (fun _ wr=>mI E g wr)
 case atStart =>
  obtain ⟨m,h1,h2,h3⟩:=X.out
  exact ⟨m,1,[_],[l1],(pz E.zs E.T f 0 1 [] s).2.2,_,_,rfl,(show ([_]:List Value).length=1 from rfl),C2,⟨h1,h2,h3⟩,by omega⟩
 case round =>
  obtain ⟨m,n,us,ks,q,a,c,rfl,hu,C,H,hl⟩:=hrel
  have hms:=mI_eq C.out.ip
  have hq:=C.out.ip.2.2.2.1
  obtain ⟨m,rfl⟩:∃m',m=m'+1:=⟨m-1,by have:=H.out;omega⟩
  have K:Hid (20*(E.T.length-q.at_)+6≤m+1∧q.at_≤E.T.length):=⟨H.out.2.1,hq⟩
  clear C2 X
  go_wp2_with (first
   |(go_at_call 83;refine (C.out.accepts (by kernel_rfl)).mono ?_;rintro e w1 (⟨hb,ha,rfl,hC⟩|⟨hb,rfl,hC⟩) <;> (replace C:Hid _:=hC) <;> (first|replace K:Hid (_∧_∧_):=⟨hb,ha,K.out⟩|replace K:Hid (_∧_):=⟨hb,K.out⟩) <;> clear hC hb)
   |(go_at_call 105;refine (C.out.cal (by decide) (expr_any HI.out (HA.out m (by have:=H.out.1;omega)) _) (by have k:=K.out;have c:=C.out.ip.2.2.2;rw [need_ok _ c.2];simp only [cOk];omega)).mono ?_;rintro e w1 (⟨hb,ha,T1,g1,l2,rfl,hl,hC⟩|⟨hb,rfl,hF⟩);rotate_left;exact ⟨rfl,dk hF hb (by have k:=K.out;rw [J.out.2.1,H.out.2.2];simp (maxDischargeDepth:=20) only [ps.pz_7,ps.pB7,k,if_true,pz_off,hb])⟩;replace C:Hid _:=hC;replace K:Hid (_∧_∧_∧_):=⟨hb,ha,hl,K.out⟩;clear hC hb ha hl)
   |(at_builtin;refine wpList_row (m2:=1) rfl _ _ rfl us [_] C.out hu.out rfl rfl rfl rfl (by omega) ?_;intro a' c' w' hC;replace C:Hid _:=hC;clear hC))
  ·go_roundw
   case rel =>
    have k:=K.out
    have k2:=C.out.ip.2.2.2.1
    refine ⟨m,n+1,us++[_],ks++[l2],_,a',c',rfl,?_,C,⟨by have:=H.out.1;omega,by omega,?_⟩,by omega⟩
    ·show (us++[_]).length=_
     rw [List.length_append,hu.out]
     rfl
    ·rw [H.out.2.2]
     simp only [ps.pz_7,ps.pB7,k,if_true]
   case measure =>
    have k:=K.out
    have k2:=C.out.ip.2.2.2.1
    have k3:=mI_eq C.out.ip
    omega
  ·go_returns
   have e:Z=(ks,0,q):=by
    have k:=K.out
    rw [H.out.2.2]
    simp only [ps.pz_7,ps.pB7,k,if_false,Bool.false_eq_true]
   exact C.out.retR hu.out (by rw [J.out.1,e]) (by rw [J.out.2.1,e];exact C.out.ip.2.2.2.2) (J.out.2.2 _ (by rw [e];exact C.out.ip)).1 (by rw [(J.out.2.2 _ (by rw [e];exact C.out.ip)).2,e];exact hl)
end ip
namespace ip
open Go.RowKit bts nod lex tk vt
open ps (En Ps isP kindP now wrong want got nameT nameS textOf over up_fq own_far bel_alloc pz need need_or cOk ends names starts named bare longer)
section
variable {E:En} {w W W':World} {g m:Nat} {un v x u:Value} {nms:List (List Int)} {us xs:List Value} {ks ls:List (List Nd)} {s s':Ps} {l:List Nd} {tx:List Int}
theorem Cz.leaf (C:Cz E w g un nms v m us ks W s) (hT:OwT W' W.heap.size W'.heap.size u tx) (hP:Ip E W' g s') (hF:Fq g W W') {kd nn:Int} (hk:0≤kd∧kd≤26) (hv:-9223372036854775808≤nn∧nn≤9223372036854775807) (ht:tx.length≤1048576) :
  Calls Tryz.prog 84 #[.agg #[.int .i64 kd,.int .i64 nn,u,nil,.int .i64 0],nil] W' fun e w'=>∃T gg,e=.returned (.iface T (.pointer (some ⟨gg,0,none⟩)))∧Cz E w g un nms v m (us++[.iface T (.pointer (some ⟨gg,0,none⟩))]) (ks++[[⟨kd,nn,tx,[],0⟩]]) w' s':=by
 obtain ⟨au,cu,rfl⟩:=hT.slice
 refine (newNode_any hk.1 hk.2 W' nn 0 au none tx.length cu 0 0 none 0 0 (by decide)).mono ?_
 rintro e w' ⟨rfl,o1,o2,T,e⟩
 have hB3:Below W'.heap.size W' w':=by rw [e];exact new3 _ _ _ _
 have s2:=hF.below.size
 have s3:=hB3.size
 have e3:((W'.alloc o1).alloc o2).heap.size=W'.heap.size+1+1:=by rw [World.size_alloc,World.size_alloc]
 have hN:Nv (tk.lt W.heap.size) w' W.heap.size w'.heap.size (.iface (ty kd) (.pointer (some ⟨W'.heap.size+1+1,0,none⟩))) (tk.node ⟨kd,nn,tx,[],0⟩ []):=by
  refine nv_new (d:=⟨kd,nn,tx,[],0⟩) (us:=[]) (ut:=.slice au tx.length cu) (un:=nil) (M:=W'.heap.size) (ao:=none) (cap:=0) ⟨hk.1,hk.2,hv⟩ ⟨Nat.le_refl _,by decide,by decide⟩ ?_ s2 ?_ (owTT_nil _ _ _) (by simpa [sizeSS,lens] using ht) (fun k u hu=>by simp at hu) ⟨rfl,s3⟩
  ·rw [← e3]
   exact node_at e (tk.lt_ge (by omega)) rfl rfl
  ·exact (hT.veil (V:=tk.lt W.heap.size) (fun b hb=>tk.lt_ge hb)).lk (lk_up (up_below hB3))
 exact ⟨_,_,rfl,C.push (hF.grown (Nat.le_of_lt hP.lt) hB3) (hP.keep hB3) hN⟩
theorem Cz.leaf0 (C:Cz E w g un nms v m us ks W s) {kd nn:Int} (hk:0≤kd∧kd≤26) (hv:-9223372036854775808≤nn∧nn≤9223372036854775807) :
  Calls Tryz.prog 84 #[.agg #[.int .i64 kd,.int .i64 nn,nil,nil,.int .i64 0],nil] W fun e w'=>∃T gg,e=.returned (.iface T (.pointer (some ⟨gg,0,none⟩)))∧Cz E w g un nms v m (us++[.iface T (.pointer (some ⟨gg,0,none⟩))]) (ks++[[⟨kd,nn,[],[],0⟩]]) w' s :=
 C.leaf (owT_nil _ _ _) C.ip (.refl _ _) hk hv (by decide)
theorem text_len (hI:Ir E) (h:s.at_≤E.T.length):(nameT E.zs E.T s).length≤1048576:=by
 obtain ⟨h1,h2⟩:=name_len hI h
 have h3:=off_le hI h2
 have h4:=hI.size
 omega
theorem name1_size (hI:Ir E) (h:s.at_≤E.T.length):sizeSS [nameT E.zs E.T s]≤1048576:=by
 obtain ⟨h1,h2⟩:=name_len hI h
 have h3:=off_le hI h2
 have h4:=hI.size
 rw [size_tl]
 simp only [List.length_singleton,tl,List.map_cons,List.map_nil,List.sum_cons,List.sum_nil]
 omega
theorem got_want {zs:List Int} {T:List (Int×Nat×Nat)} {t:ByteArray} (h:isP zs T s t=true):got zs T s t=want zs T s t:=by unfold ps.got ps.want;rw [h];rfl
end
def argz (zs:List Int) (T:List (Int×Nat×Nat)) (f:Nat) (s:Ps):List (List Nd)×Ps :=
 if isP zs T s {data:=#[41]} then ([],want zs T s {data:=#[41]}) else ((pz zs T f 6 0 [] s).1,want zs T (pz zs T f 6 0 [] s).2.2 {data:=#[41]})
def prim (zs:List Int) (T:List (Int×Nat×Nat)) (f:Nat) (s:Ps):List (List Nd)×Int×Ps :=
 if isP zs T s {data:=#[40]} then ((pz zs T f 0 1 [] (got zs T s {data:=#[40]})).1,0,want zs T (pz zs T f 0 1 [] (got zs T s {data:=#[40]})).2.2 {data:=#[41]})
 else ([[⟨16,0,[],[nameT zs T s],0⟩]],116,nameS zs T s)
theorem p4 (zs:List Int) (T:List (Int×Nat×Nat)) (f:Nat) (s:Ps) (n:Int) (ks:List (List Nd)):pz zs T (f+1) 4 n ks s=pz zs T f 5 (prim zs T f s).2.1 (prim zs T f s).1 (prim zs T f s).2.2:=by
 rw [ps.pz_4]
 unfold ps.pB4 prim
 split <;> rfl
theorem p6_at {E:En} {f:Nat} {s:Ps} (hn:need E.T 6 s≤f):s.at_≤(pz E.zs E.T f 6 0 [] s).2.2.at_:=(ps.gd_at (ps.pz_gd E.zs E.T f 6 0 [] s (by decide) hn)).1
theorem args_any {E:En} (hI:Ir E) {f:Nat} (A:Ia E f) (s:Ps) (hn:need E.T 6 s≤f) (w:World) (g:Nat) (hP:Ip E w g s):Calls Tryz.prog 130 (ag1 g) w (Pk E (argz E.zs E.T f s).1 (argz E.zs E.T f s).2 g w):=by
 have C:Hid (Cz E w g nil [] nil 0 [] [] w s):=Cz.start hI hP
 have K:Hid (need E.T 6 s≤f∧s.at_≤E.T.length∧s.bad<0):=⟨hn,hP.2.2.2.1,hP.2.2.2.2⟩
 have HA:Hid (Ia E f):=A
 clear hn hI A hP
 unfold ag1
 go_enter Tryz.func130,Tryz.ntmps130
 go_wp2_with (first
  |(go_at_call 83;refine (C.out.accepts (by kernel_rfl)).mono ?_;rintro e w1 (⟨hb,ha,rfl,hC⟩|⟨hb,rfl,hC⟩) <;> (replace C:Hid _:=hC) <;> (first|replace K:Hid (_∧_∧_):=⟨hb,ha,K.out⟩|replace K:Hid (_∧_):=⟨hb,K.out⟩) <;> clear hC hb)
  |(go_at_call 119;refine (C.out.listR (HA.out.exs _ (by have k:=K.out;simp only [k])) (p6_at (by have k:=K.out;simp only [k]))).mono ?_;rintro e w1 (⟨hb,ha,a1,c1,xs,rfl,hl,hC⟩|⟨hb,rfl,hF⟩);rotate_left;exact ⟨rfl,dk hF hb (by have k:=K.out;simp (maxDischargeDepth:=20) only [argz,k,if_false,Bool.false_eq_true,want_bd,hb])⟩;replace C:Hid _:=hC;replace K:Hid (_∧_∧_∧_):=⟨hl,hb,ha,K.out⟩;clear hC hb ha hl)
  |(go_at_call 106;refine (C.out.expect (by kernel_rfl)).mono ?_;rintro e w1 (⟨hb,ha,⟨u,rfl⟩,hC⟩|⟨hb,rfl,hF⟩);rotate_left;exact ⟨rfl,dk hF hb (by have k:=K.out;simp only [argz,k,if_false,Bool.false_eq_true])⟩;replace C:Hid _:=hC;replace K:Hid (_∧_∧_):=⟨hb,ha,K.out⟩;clear hC hb ha))
 ·go_returns
  have k:=K.out
  have e:argz E.zs E.T f s=([],got E.zs E.T s {data:=#[41]}):=by simp only [argz,k,if_true];rw [got_want k.1]
  rw [e]
  exact C.out.retR rfl rfl C.out.ip.2.2.2.2 C.out.ip (by omega)
 ·go_returns
  have k:=K.out
  have e:argz E.zs E.T f s=((pz E.zs E.T f 6 0 [] s).1,want E.zs E.T (pz E.zs E.T f 6 0 [] s).2.2 {data:=#[41]}):=by simp only [argz,k,if_false,Bool.false_eq_true]
  rw [e]
  exact C.out.retR rfl rfl C.out.ip.2.2.2.2 C.out.ip (by show _≤(want E.zs E.T (pz E.zs E.T f 6 0 [] s).2.2 {data:=#[41]}).at_+1;omega)
section
variable {E:En} {w W:World} {g m:Nat} {un v x:Value} {nms:List (List Int)} {l:List Nd} {s:Ps} {r:List (List Nd)×Int×Ps}
theorem Cz.doneT (C:Cz E w g un nms v m [x] [l] W s) {c:Int} (h1:r.1=[l]) (h2:r.2.2=s) (h3:fm r.2.1=c):Pt E r g w (.returned (.tuple #[x,.int .i64 c])) W :=
 ⟨C.fq,.inl ⟨by rw [h2];exact C.ip.2.2.2.2,_,rfl,x,l,by rw [h3],h1,C.ret,by rw [h2];exact C.ip⟩⟩
theorem dt {b:Int} (hF:Fq g w W) (hb:0≤b) (h:r.2.2.bad=b):Pt E r g w (.panicked (flt b)) W:=⟨hF,.inr ⟨by omega,by rw [h]⟩⟩
end
theorem prim_any {E:En} (hI:Ir E) {f:Nat} (A:Ia E f) (s:Ps) (hn:isP E.zs E.T s {data:=#[40]}=true→need E.T 0 (got E.zs E.T s {data:=#[40]})≤f) (w:World) (g:Nat) (hP:Ip E w g s):Calls Tryz.prog 129 (ag1 g) w (Pt E (prim E.zs E.T f s) g w):=by
 have C:Hid (Cz E w g nil [] nil 0 [] [] w s):=Cz.start hI hP
 have HI:Hid (Ir E):=hI
 have HN:Hid (isP E.zs E.T s {data:=#[40]}=true→need E.T 0 (got E.zs E.T s {data:=#[40]})≤f):=hn
 have K:Hid (s.at_≤E.T.length∧s.bad<0):=⟨hP.2.2.2.1,hP.2.2.2.2⟩
 have HA:Hid (Ia E f):=A
 clear hn hI A hP
 unfold ag1
 go_enter Tryz.func129,Tryz.ntmps129
 go_wp2_with (first
  |(go_at_call 83;refine (C.out.accepts (by kernel_rfl)).mono ?_;rintro e w1 (⟨hb,ha,rfl,hC⟩|⟨hb,rfl,hC⟩) <;> (replace C:Hid _:=hC) <;> (first|replace K:Hid (_∧_∧_):=⟨hb,ha,K.out⟩|replace K:Hid (_∧_):=⟨hb,K.out⟩) <;> clear hC hb)
  |(go_at_call 105;refine (C.out.cal (by decide) (expr_any HI.out HA.out _) (by have k:=K.out;exact HN.out k.1)).mono ?_;rintro e w1 (⟨hb,ha,T1,g1,l1,rfl,hl,hC⟩|⟨hb,rfl,hF⟩);rotate_left;exact ⟨rfl,dt hF hb (by have k:=K.out;simp (maxDischargeDepth:=20) only [prim,k,if_true,want_bd,hb])⟩;simp only [List.nil_append] at hC;replace C:Hid _:=hC;replace K:Hid (_∧_∧_∧_):=⟨hb,ha,hl,K.out⟩;clear hC hb ha hl)
  |(go_at_call 106;refine (C.out.expect (by kernel_rfl)).mono ?_;rintro e w1 (⟨hb,ha,⟨u,rfl⟩,hC⟩|⟨hb,rfl,hF⟩);rotate_left;exact ⟨rfl,dt hF hb (by have k:=K.out;simp only [prim,k,if_true])⟩;replace C:Hid _:=hC;replace K:Hid (_∧_∧_):=⟨hb,ha,K.out⟩;clear hC hb ha)
  |(go_at_call 116;refine (C.out.take).mono ?_;rintro e w1 (⟨hb,ha,hk,a1,c1,rfl,hT,hP,hF⟩|⟨hb,rfl,hF⟩);rotate_left;exact ⟨rfl,dt hF hb (by have k:=K.out;simp only [prim,k,if_false,Bool.false_eq_true])⟩;(have C1:Hid _:=C.out.name1 hT hP hF);replace K:Hid (_∧_∧_):=⟨hb,ha,K.out⟩;have HL:Hid (sizeSS [nameT E.zs E.T s]≤1048576):=(name1_size HI.out K.out.2.2.2.1);clear hb ha hk hT hP hF)
  |(go_at_call 84;refine (C1.out.bare (by decide) (by decide) HL.out).mono ?_;rintro e w1 ⟨T1,g1,rfl,hC,hF⟩;replace C:Hid _:=hC;clear hC hF))
 all_goals
  go_returns
  exact C.out.doneT (by have k:=K.out;simp only [prim,k,if_true,if_false,Bool.false_eq_true] <;> rfl) (by have k:=K.out;simp only [prim,k,if_true,if_false,Bool.false_eq_true]) (by have k:=K.out;simp only [prim,k,if_true,if_false,Bool.false_eq_true] <;> rfl)
end ip
namespace ip
open Go.RowKit bts nod lex tk vt
open ps (En Ps isP kindP now wrong want got nameT nameS textOf over up_fq own_far bel_alloc pz need need_or cOk ends names starts named bare longer)
theorem argz_at {E:En} {f:Nat} {s:Ps} (hn:need E.T 6 s≤f):s.at_≤(argz E.zs E.T f s).2.at_:=by
 unfold argz
 split
 ·exact ps.want_at _ _ _ _
 ·exact Nat.le_trans (p6_at hn) (ps.want_at _ _ _ _)
theorem argz_off {zs:List Int} {T:List (Int×Nat×Nat)} {f:Nat} {s:Ps} (h:0≤s.bad):(argz zs T f s).2.bad=s.bad:=by
 unfold argz
 rw [is_off h]
 show (want zs T _ _).bad=_
 rw [want_bd (by rw [pz_off _ _ _ _ _ h];exact h),pz_off _ _ _ _ _ h]
theorem prim_at {E:En} {f:Nat} {s:Ps} (hn:isP E.zs E.T s {data:=#[40]}=true→need E.T 0 (got E.zs E.T s {data:=#[40]})≤f):s.at_≤(prim E.zs E.T f s).2.2.at_:=by
 unfold prim
 split
 ·rename_i h
  have h:isP E.zs E.T s {data:=#[40]}=true:=h
  have h1:=(ps.got_yes h).1
  have h2:=(ps.gd_at (ps.pz_gd E.zs E.T f 0 1 [] _ (by decide) (hn h))).1
  have h3:=ps.want_at E.zs E.T (pz E.zs E.T f 0 1 [] (got E.zs E.T s {data:=#[40]})).2.2 {data:=#[41]}
  show _≤(want E.zs E.T _ _).at_
  omega
 ·exact ps.name_at _ _ _
theorem p5 (zs:List Int) (T:List (Int×Nat×Nat)) (m:Nat) (n:Int) (ks:List (List Nd)) {q:Ps} (hq:q.bad<0):pz zs T (m+1) 5 n ks q =
  if isP zs T q {data:=#[46]} then pz zs T m 5 116 [tk.node ⟨17,0,[],[],0⟩ (ks++[[⟨15,0,nameT zs T (got zs T q {data:=#[46]}),[],0⟩]])] (nameS zs T (got zs T q {data:=#[46]}))
  else if isP zs T q {data:=#[91]} then pz zs T m 5 116 [tk.node ⟨17,0,[],[],0⟩ (ks++(pz zs T m 0 1 [] (got zs T q {data:=#[91]})).1)] (want zs T (pz zs T m 0 1 [] (got zs T q {data:=#[91]})).2.2 {data:=#[93]})
  else if isP zs T q {data:=#[40]} then pz zs T m 5 99 [tk.node ⟨18,0,[],[],0⟩ (ks++(argz zs T m (got zs T q {data:=#[40]})).1)] (argz zs T m (got zs T q {data:=#[40]})).2
  else (ks,n,q):=by
 rw [ps.pz_5]
 unfold ps.pB5 argz
 rw [if_neg (by omega)]
 (repeat' split) <;> first|rfl|(simp only [List.append_nil];rfl)
theorem suf_next {E:En} (hI:Ir E) {f:Nat} (A:∀m,m≤f→Ia E m) (s:Ps) (hn:need E.T 4 s≤f+1) (w:World) (g:Nat) (hP:Ip E w g s):Calls Tryz.prog 121 (ag1 g) w (Pt E (pz E.zs E.T (f+1) 4 0 [] s) g w):=by
 have C:Hid (Cz E w g nil [] nil 0 [] [] w s):=Cz.start hI hP
 have HI:Hid (Ir E):=hI
 have HA:Hid (∀m,m≤f→Ia E m):=A
 have HM:E.T.length≤6000:=hI.many
 have K:Hid (20*(E.T.length-s.at_)+3≤f+1∧s.at_≤E.T.length∧s.bad<0):=⟨by rw [need_ok 4 hP.2.2.2.2] at hn;exact hn,hP.2.2.2.1,hP.2.2.2.2⟩
 have J:Hid (pz E.zs E.T (f+1) 4 0 [] s=pz E.zs E.T f 5 (prim E.zs E.T f s).2.1 (prim E.zs E.T f s).1 (prim E.zs E.T f s).2.2):=p4 _ _ _ _ _ _
 generalize (pz E.zs E.T (f+1) 4 0 [] s)=r at J ⊢
 have HP:Hid (Ip E w g s):=hP
 have HR:Hid (Calls Tryz.prog 129 #[.pointer (some ⟨g,0,none⟩)] w (Pt E (prim E.zs E.T f s) g w)):=prim_any hI (A f (Nat.le_refl _)) s (fun h=>by
  have h1:=ps.got_yes h
  have h2:=ps.is_bad h
  have k:=K.out
  rw [need_ok _ (by omega)];simp only [cOk];omega) w g hP
 have HAt:Hid (s.at_≤(prim E.zs E.T f s).2.2.at_):=prim_at (fun h=>by
  have h1:=ps.got_yes h
  have h2:=ps.is_bad h
  have k:=K.out
  rw [need_ok _ (by omega)];simp only [cOk];omega)
 clear hn hI A hP
 unfold ag1
 go_enter Tryz.func121,Tryz.ntmps121
 go_wp2_with (go_at_call 129;refine HR.out.mono ?_;rintro e w1 ⟨hF,⟨hb,u,rfl,x,l,rfl,h1,h2,h3⟩|⟨hb,rfl⟩⟩;rotate_left;exact ⟨rfl,dt hF hb (by rw [J.out,pz_off _ _ _ _ _ hb])⟩;obtain ⟨T1,g1,rfl⟩:=h2.isI;have hC:=C.out.push hF h3 h2;simp only [List.nil_append] at hC;have C2:Hid _:=hC;have X:Hid (_=[l]):=h1;clear C hC hF hb h1 h2 h3)
 have X2:Hid (∃m,m≤f∧20*(E.T.length-(prim E.zs E.T f s).2.2.at_)+2≤m∧r=pz E.zs E.T m 5 (prim E.zs E.T f s).2.1 [l] (prim E.zs E.T f s).2.2):=⟨f,Nat.le_refl _,(by have k:=K.out;have k2:=HAt.out;omega),by rw [J.out,X.out]⟩
 clear J K HR HAt X
 generalize (prim E.zs E.T f s).2.1=c0 at X2 ⊢
 go_loopw [4,5] (fun v4 v5 wr=>∃(m T1 g1:Nat) (l:List Nd) (c:Int) (q:Ps),v4=.iface T1 (.pointer (some ⟨g1,0,none⟩))∧v5=.int .i64 (fm c)∧Hid (Cz E w g nil [] nil 0 [.iface T1 (.pointer (some ⟨g1,0,none⟩))] [l] wr q)∧Hid (m≤f∧20*(E.T.length-q.at_)+2≤m∧r=pz E.zs E.T m 5 c [l] q)) (fun _ _ wr=>mI E g wr)
 case atStart =>
  obtain ⟨m,h1,h2,h3⟩:=X2.out
  exact ⟨m,T1,g1,l,c0,_,rfl,rfl,C2,⟨h1,h2,h3⟩⟩
 case round =>
  obtain ⟨m,T1,g1,l,c,q,rfl,rfl,C,H⟩:=hrel
  have hms:=mI_eq C.out.ip
  have hq:=C.out.ip.2.2.2.1
  have k0:Hid (q.bad<0):=C.out.ip.2.2.2.2
  obtain ⟨m,rfl⟩:∃m',m=m'+1:=⟨m-1,by have:=H.out;omega⟩
  have K:Hid (20*(E.T.length-q.at_)+2≤m+1∧q.at_≤E.T.length):=⟨H.out.2.1,hq⟩
  clear C2 X2
  go_wp2_with (first
   |(go_at_call 83;refine (C.out.accepts (by kernel_rfl)).mono ?_;rintro e w1 (⟨hb,ha,rfl,hC⟩|⟨hb,rfl,hC⟩) <;> (replace C:Hid _:=hC) <;> (first|replace K:Hid (_∧_∧_):=⟨hb,ha,K.out⟩|replace K:Hid (_∧_):=⟨hb,K.out⟩) <;> (have C1:Hid _:=C.out.rowLit1) <;> clear hC hb)
   |(go_at_call 105;refine (C.out.cal (by decide) (expr_any HI.out (HA.out m (by have:=H.out.1;omega)) _) (by have k:=K.out;have c:=C.out.ip.2.2.2;rw [need_ok _ c.2];simp only [cOk];omega)).mono ?_;rintro e w1 (⟨hb,ha,T2,g2,l2,rfl,hl,hC⟩|⟨hb,rfl,hF⟩);rotate_left;exact ⟨rfl,dt hF hb (by have k:=K.out;rw [H.out.2.2,p5 _ _ _ _ _ k0.out];simp (maxDischargeDepth:=20) only [k,if_true,if_false,Bool.false_eq_true,is_off,want_bd,name_bd,argz_off,pz_off,hb])⟩;simp only [List.cons_append,List.nil_append] at hC;replace C:Hid _:=hC;replace K:Hid (_∧_∧_∧_):=⟨hb,ha,hl,K.out⟩;clear hC hb ha hl)
   |(go_at_call 106;refine (C.out.expect (by kernel_rfl)).mono ?_;rintro e w1 (⟨hb,ha,⟨u,rfl⟩,hC⟩|⟨hb,rfl,hF⟩);rotate_left;exact ⟨rfl,dt hF hb (by have k:=K.out;rw [H.out.2.2,p5 _ _ _ _ _ k0.out];simp (maxDischargeDepth:=20) only [k,if_true,if_false,Bool.false_eq_true,is_off,want_bd,name_bd,argz_off,pz_off,hb])⟩;replace C:Hid _:=hC;replace K:Hid (_∧_∧_):=⟨hb,ha,K.out⟩;clear hC hb ha)
   |(go_at_call 116;refine (C.out.take).mono ?_;rintro e w1 (⟨hb,ha,hk,a1,c1,rfl,hT,hP,hF⟩|⟨hb,rfl,hF⟩);rotate_left;exact ⟨rfl,dt hF hb (by have k:=K.out;rw [H.out.2.2,p5 _ _ _ _ _ k0.out];simp (maxDischargeDepth:=20) only [k,if_true,if_false,Bool.false_eq_true,is_off,want_bd,name_bd,argz_off,pz_off,hb])⟩;have Q:Hid (_∧_∧_∧_):=⟨hT,hP,hF,text_len HI.out C.out.ip.2.2.2.1⟩;replace K:Hid (_∧_∧_):=⟨hb,ha,K.out⟩;clear hb ha hk hT hP hF)
   |(go_at_call 130;refine (C1.out.list (args_any HI.out (HA.out m (by have:=H.out.1;omega)) _ (by have k:=K.out;have c:=C1.out.ip.2.2.2;rw [need_ok _ c.2];simp only [cOk];omega)) (argz_at (by have k:=K.out;have c:=C1.out.ip.2.2.2;rw [need_ok _ c.2];simp only [cOk];omega))).mono ?_;rintro e w1 (⟨hb,ha,a1,c1,xs,rfl,ho,hl,hC⟩|⟨hb,rfl,hF⟩);rotate_left;exact ⟨rfl,dt hF hb (by have k:=K.out;rw [H.out.2.2,p5 _ _ _ _ _ k0.out];simp (maxDischargeDepth:=20) only [k,if_true,if_false,Bool.false_eq_true,is_off,want_bd,name_bd,argz_off,pz_off,hb])⟩;have C3:Hid _:=hC;have O:Hid _:=ho;have hxl:xs.length≤20000:=(by have:=C3.out.ip.2.2.2.1;omega);replace K:Hid (_∧_∧_):=⟨hb,ha,K.out⟩;clear C1 hC hb ha hl ho)
   |(at_builtin;refine wpList_rows rfl _ _ rfl [_] xs C3.out rfl O.out rfl rfl (by omega) ?_;intro a' c' w' hC;have C4:Hid _:=hC;clear C3 hC O)
   |(go_at_call 84;first
    |(refine (C.out.leaf Q.out.1 Q.out.2.1 Q.out.2.2.1 (by decide) (by decide) Q.out.2.2.2).mono ?_;clear Q;rintro e w1 ⟨T2,g2,rfl,hC⟩;simp only [List.cons_append,List.nil_append] at hC;replace C:Hid _:=hC;clear hC)
    |(refine (C4.out.foldR (by simp <;> omega) (by omega) (by decide) (by decide) (by decide)).mono ?_;rintro e w1 ⟨T2,g2,rfl,hC,hF⟩;replace C:Hid _:=hC;clear C4 hC hF)
    |(refine (C.out.lit rfl (by simp) (by decide) (by decide) (by decide)).mono ?_;rintro e w1 ⟨T2,g2,rfl,hC,hF⟩;replace C:Hid _:=hC;clear hC hF)))
  rotate_right
  ·go_returns
   have e:r=([l],c,q):=by
    have k:=K.out
    rw [H.out.2.2,p5 _ _ _ _ _ k0.out]
    simp only [k,if_false,Bool.false_eq_true]
   exact C.out.doneT (by rw [e]) (by rw [e]) (by rw [e])
  ·go_roundw
   case rel =>
    have k:=K.out
    have k2:=C.out.ip.2.2.2.1
    refine ⟨m,_,_,_,116,_,rfl,rfl,C,⟨by have:=H.out.1;omega,by omega,?_⟩⟩
    rw [H.out.2.2,p5 _ _ _ _ _ k0.out]
    simp only [k,if_true,if_false,Bool.false_eq_true] <;> rfl
   case measure =>
    have k:=K.out
    have k2:=C.out.ip.2.2.2.1
    have k3:=mI_eq C.out.ip
    omega
  ·go_roundw
   case rel =>
    have k:=K.out
    have k2:=C.out.ip.2.2.2.1
    refine ⟨m,_,_,_,116,_,rfl,rfl,C,⟨by have:=H.out.1;omega,by omega,?_⟩⟩
    rw [H.out.2.2,p5 _ _ _ _ _ k0.out]
    simp only [k,if_true,if_false,Bool.false_eq_true] <;> rfl
   case measure =>
    have k:=K.out
    have k2:=C.out.ip.2.2.2.1
    have k3:=mI_eq C.out.ip
    omega
  ·go_roundw
   case rel =>
    have k:=K.out
    have k2:=C.out.ip.2.2.2.1
    refine ⟨m,_,_,_,99,_,rfl,rfl,C,⟨by have:=H.out.1;omega,by omega,?_⟩⟩
    rw [H.out.2.2,p5 _ _ _ _ _ k0.out]
    simp only [k,if_true,if_false,Bool.false_eq_true] <;> rfl
   case measure =>
    have k:=K.out
    have k2:=C.out.ip.2.2.2.1
    have k3:=mI_eq C.out.ip
    omega
end ip
namespace ip
open Go.RowKit bts nod lex tk vt
open ps (En Ps isP kindP now wrong want got nameT nameS textOf over up_fq own_far bel_alloc pz need need_or cOk ends names starts named bare longer)
theorem cells_at:∀(l:List (ByteArray×Int×Int×Int)) (i:Nat),i<l.length→(l.flatMap fun t=>[.string t.1,.int .i64 t.2.1,.int .i64 t.2.2.1,.int .i64 t.2.2.2]:List Value)[i*4]?=some (.string (l.getD i ({data:=#[]},0,0,0)).1)∧(l.flatMap fun t=>[.string t.1,.int .i64 t.2.1,.int .i64 t.2.2.1,.int .i64 t.2.2.2]:List Value)[i*4+1]?=some (.int .i64 (l.getD i ({data:=#[]},0,0,0)).2.1)∧(l.flatMap fun t=>[.string t.1,.int .i64 t.2.1,.int .i64 t.2.2.1,.int .i64 t.2.2.2]:List Value)[i*4+2]?=some (.int .i64 (l.getD i ({data:=#[]},0,0,0)).2.2.1)∧(l.flatMap fun t=>[.string t.1,.int .i64 t.2.1,.int .i64 t.2.2.1,.int .i64 t.2.2.2]:List Value)[i*4+3]?=some (.int .i64 (l.getD i ({data:=#[]},0,0,0)).2.2.2)
 |[],_,h=>absurd h (by simp)
 |_::_,0,_=>by simp
 |x::r,i+1,h=>by
  have ih:=cells_at r i (by simpa using h)
  rw [show (i+1)*4=i*4+4 by omega]
  simpa [List.flatMap_cons] using ih
theorem Opr.range {w:World} (h:Opr w):w.rangeAt 1 0 opCells:=by
 intro j v hv
 rw [Nat.zero_add]
 have hj:j<56:=by
  rcases Nat.lt_or_ge j 56 with h|h
  ·exact h
  ·rw [List.getElem?_eq_none (by simpa [opCells,opTab] using h)] at hv;cases hv
 obtain ⟨a,b,c,d⟩:=h (j / 4) (by omega)
 obtain ⟨a',b',c',d'⟩:=cells_at opTab (j / 4) (by show _<14;omega)
 have hc:j=j / 4*4∨j=j / 4*4+1∨j=j / 4*4+2∨j=j / 4*4+3:=by omega
 rcases hc with e|e|e|e
 ·rw [e] at hv ⊢;rw [a];rw [← hv];exact a'.symm
 ·rw [e] at hv ⊢;rw [b];rw [← hv];exact b'.symm
 ·rw [e] at hv ⊢;rw [c];rw [← hv];exact c'.symm
 ·rw [e] at hv ⊢;rw [d];rw [← hv];exact d'.symm
theorem index_op:∀(k:Nat),k<14→∀W:World,(Instr.index 210 (.agg opCells.toArray) (.int .i64 k)).run Tryz.prog W=.ok (.agg #[.string (opAt k).1,.int .i64 (opAt k).2.1,.int .i64 (opAt k).2.2.1,.int .i64 (opAt k).2.2.2]) W
 |0,_=>fun W=>by kernel_rfl
 |1,_=>fun W=>by kernel_rfl
 |2,_=>fun W=>by kernel_rfl
 |3,_=>fun W=>by kernel_rfl
 |4,_=>fun W=>by kernel_rfl
 |5,_=>fun W=>by kernel_rfl
 |6,_=>fun W=>by kernel_rfl
 |7,_=>fun W=>by kernel_rfl
 |8,_=>fun W=>by kernel_rfl
 |9,_=>fun W=>by kernel_rfl
 |10,_=>fun W=>by kernel_rfl
 |11,_=>fun W=>by kernel_rfl
 |12,_=>fun W=>by kernel_rfl
 |13,_=>fun W=>by kernel_rfl
 |k+14,h=>absurd h (by omega)
theorem lookF_step (x:ByteArray) (k:Nat) (h:k<14):lookF x (opTab.drop k)=if (opAt k).1.toList==x.toList then opAt k else lookF x (opTab.drop (k+1)):=by
 rw [List.drop_eq_getElem_cons (by show k<14;exact h),lookF]
 have e:opTab[k]'(by show k<14;exact h)=opAt k:=by simp [opAt,List.getD_eq_getElem?_getD,List.getElem?_eq_getElem (show k<opTab.length from h)]
 rw [e]
theorem bySign_any (x:ByteArray) (w:World) (h:Opr w):Calls Tryz.prog 127 #[.string x] w fun e w'=>e=.returned (.agg #[.string (look x).1,.int .i64 (look x).2.1,.int .i64 (look x).2.2.1,.int .i64 (look x).2.2.2])∧Below w.heap.size w w':=by
 obtain ⟨W1,hW1⟩:∃W1,W1=w.alloc (.cells #[.string {data:=#[]},.int .i64 0,.int .i64 0,.int .i64 0] 208):=⟨_,rfl⟩
 have B1:Hid (Below w.heap.size w W1):=by show Below _ _ _;rw [hW1];exact (Below.refl _ _).alloc (Nat.le_refl _) _
 have hl:Hid (W1.rangeAt 1 0 opCells∧(Tryz.prog.info? 210).map (·.size)=some opCells.length):=⟨(h.below B1.out).range,by kernel_rfl⟩
 have X:=index_op
 have L1:Hid (tk.Lone 208 4 W1 w.heap.size [.string {data:=#[]},.int .i64 0,.int .i64 0,.int .i64 0]):=by show tk.Lone _ _ _ _ _;rw [hW1];exact tk.Lone.of (heap_alloc_new _ _) rfl
 generalize opCells=oc at hl X
 have HX:Hid _:=X
 rw [hW1] at hl
 clear h X
 go_enter Tryz.func127,Tryz.ntmps127
 go_wp2_with (refine wpList_load_mid rfl _ _ rfl 1 0 rfl oc _ hl.out.1 Tryz.underlying210 rfl hl.out.2 ?_)
 rw [← hW1]
 go_loopw [6] (fun v wr=>∃(k:Nat),k≤14∧v=.int .i64 k∧Hid (Below W1.heap.size W1 wr∧lookF x (opTab.drop k)=look x)) (fun v _=>14-(intOf v).toNat)
 case atStart=>exact ⟨0,by omega,rfl,Below.refl _ _,rfl⟩
 case round =>
  obtain ⟨k,hk,rfl,H⟩:=hrel
  have L2:Hid (tk.Lone 208 4 wr w.heap.size [.string {data:=#[]},.int .i64 0,.int .i64 0,.int .i64 0]):=L1.out.below H.out.1 (heap_lt L1.out.back)
  have HB:Hid (Below w.heap.size w wr):=B1.out.trans (H.out.1.mono B1.out.size)
  have hsz:=HB.out.size
  by_cases hlt:k<14
  ·have hi:=HX.out k hlt
   have hst:=lookF_step x k hlt
   rw [H.out.2] at hst
   have hd:(k:Int)<14:=by omega
   generalize opAt k=q at hi hst
   obtain ⟨sg,kd,nn,bn⟩:=q
   simp only at hi hst
   cases he:(sg.toList==x.toList)
   ·rw [he] at hst
    have HS:Hid (look x=lookF x (opTab.drop (k+1))):=hst
    clear hst hl HX
    go_wp2_with (simp only [he])
    go_roundw
    case rel =>
     refine ⟨k+1,by omega,by go_num,?_,HS.out.symm⟩
     exact H.out.1.alloc H.out.1.size _
    case measure=>simp [intOf];omega
   ·rw [he,if_pos rfl] at hst
    have HL:Hid (look x=(sg,kd,nn,bn)):=hst
    have L3:Hid (tk.Lone 208 4 (wr.alloc (.cells #[.string sg,.int .i64 kd,.int .i64 nn,.int .i64 bn] 208)) w.heap.size [.string {data:=#[]},.int .i64 0,.int .i64 0,.int .i64 0]):=L2.out.below ((Below.refl _ _).alloc (Nat.le_refl _) _) (heap_lt L2.out.back)
    have c0:(wr.alloc (.cells #[.string sg,.int .i64 kd,.int .i64 nn,.int .i64 bn] 208)).cell? ⟨w.heap.size,0,none⟩=some (.string {data:=#[]}):=L3.out.at (j:=0) (by omega)
    have c1:(wr.alloc (.cells #[.string sg,.int .i64 kd,.int .i64 nn,.int .i64 bn] 208)).cell? ⟨w.heap.size,1,none⟩=some (.int .i64 0):=L3.out.at (j:=1) (by omega)
    have c2:(wr.alloc (.cells #[.string sg,.int .i64 kd,.int .i64 nn,.int .i64 bn] 208)).cell? ⟨w.heap.size,2,none⟩=some (.int .i64 0):=L3.out.at (j:=2) (by omega)
    have c3:(wr.alloc (.cells #[.string sg,.int .i64 kd,.int .i64 nn,.int .i64 bn] 208)).cell? ⟨w.heap.size,3,none⟩=some (.int .i64 0):=L3.out.at (j:=3) (by omega)
    have f0:=L3.out.free 0
    have f1:=L3.out.free 1
    have f2:=L3.out.free 2
    have f3:=L3.out.free 3
    have HB2:Hid (Below w.heap.size w (wr.alloc (.cells #[.string sg,.int .i64 kd,.int .i64 nn,.int .i64 bn] 208))):=HB.out.alloc hsz _
    clear hst hl HX
    go_wp2_with (simp only [he])
    refine bodyPost_ret (by simp [results,Tryz.results127,go_sem,c0,c1,c2,c3];try rfl) rfl ?_
    refine ⟨by rw [HL.out],?_⟩
    exact (((HB2.out.setCell (p:=⟨w.heap.size,0,none⟩) (Nat.le_refl _) _).setCell (p:=⟨w.heap.size,1,none⟩) (Nat.le_refl _) _).setCell (p:=⟨w.heap.size,2,none⟩) (Nat.le_refl _) _).setCell (p:=⟨w.heap.size,3,none⟩) (Nat.le_refl _) _
  ·obtain rfl:k=14:=by omega
   have HL:Hid (look x=({data:=#[]},0,0,0)):=H.out.2.symm
   have c0:wr.cell? ⟨w.heap.size,0,none⟩=some (.string {data:=#[]}):=L2.out.at (j:=0) (by omega)
   have c1:wr.cell? ⟨w.heap.size,1,none⟩=some (.int .i64 0):=L2.out.at (j:=1) (by omega)
   have c2:wr.cell? ⟨w.heap.size,2,none⟩=some (.int .i64 0):=L2.out.at (j:=2) (by omega)
   have c3:wr.cell? ⟨w.heap.size,3,none⟩=some (.int .i64 0):=L2.out.at (j:=3) (by omega)
   have f0:=L2.out.free 0
   have f1:=L2.out.free 1
   have f2:=L2.out.free 2
   have f3:=L2.out.free 3
   clear hl HX
   go_wp2
   refine bodyPost_ret (by simp [results,Tryz.results127,go_sem,c0,c1,c2,c3];try rfl) rfl ?_
   refine ⟨by rw [HL.out],?_⟩
   exact (((HB.out.setCell (p:=⟨w.heap.size,0,none⟩) (Nat.le_refl _) _).setCell (p:=⟨w.heap.size,1,none⟩) (Nat.le_refl _) _).setCell (p:=⟨w.heap.size,2,none⟩) (Nat.le_refl _) _).setCell (p:=⟨w.heap.size,3,none⟩) (Nat.le_refl _) _
theorem right_any (sg:ByteArray) (kd nn bn:Int) (w:World):Calls Tryz.prog 128 #[.agg #[.string sg,.int .i64 kd,.int .i64 nn,.int .i64 bn]] w fun e w'=>e=.returned (.bool (sg.toList==[46,46]))∧Below w.heap.size w w':=by
 go_enter Tryz.func128,Tryz.ntmps128
 go_wp2
 go_returns
 exact ⟨rfl,(Below.refl _ _).alloc (Nat.le_refl _) _⟩
theorem look_hit {x:ByteArray} {k:Nat} (hk:k<14) (h:((opAt k).1.toList==x.toList)=true) (hn:∀j,j<k→((opAt j).1.toList==x.toList)=false):look x=opAt k:=by
 have H:∀j,j≤k→lookF x (opTab.drop j)=look x:=by
  intro j
  induction j with
  |zero=>intro _;rfl
  |succ j ih =>
   intro hj
   have:=ih (by omega)
   rw [lookF_step x j (by omega),hn j (by omega)] at this
   exact this
 rw [← H k (Nat.le_refl _),lookF_step x k hk,h]
 rfl
theorem look_miss {x:ByteArray} (hn:∀j,j<14→((opAt j).1.toList==x.toList)=false):look x=({data:=#[]},0,0,0):=by
 have H:∀j,j≤14→lookF x (opTab.drop j)=look x:=by
  intro j
  induction j with
  |zero=>intro _;rfl
  |succ j ih =>
   intro hj
   have:=ih (by omega)
   rw [lookF_step x j (by omega),hn j (by omega)] at this
   exact this
 exact (H 14 (Nat.le_refl _)).symm
theorem differ:∀k j:Nat,k<14→j<k→((opAt j).1.data.toList==(opAt k).1.data.toList)=false:=by
 have H:((List.range 14).all fun k=>(List.range k).all fun j=>!((opAt j).1.data.toList==(opAt k).1.data.toList))=true:=by kernel_rfl
 intro k j hk hj
 have h1:=List.all_eq_true.1 H k (List.mem_range.2 hk)
 have h2:=List.all_eq_true.1 h1 j (List.mem_range.2 hj)
 simpa using h2
theorem oper_un (zs:List Int) (T:List (Int×Nat×Nat)) (s:Ps):ps.oper zs T s=if isP zs T s {data:=#[111,114]} then (⟨(opAt 0).2.1,(opAt 0).2.2.1,[],[],0⟩,(opAt 0).2.2.2) else if isP zs T s {data:=#[97,110,100]} then (⟨(opAt 1).2.1,(opAt 1).2.2.1,[],[],0⟩,(opAt 1).2.2.2) else if isP zs T s {data:=#[43]} then (⟨(opAt 9).2.1,(opAt 9).2.2.1,[],[],0⟩,(opAt 9).2.2.2) else if isP zs T s {data:=#[45]} then (⟨(opAt 10).2.1,(opAt 10).2.2.1,[],[],0⟩,(opAt 10).2.2.2) else if isP zs T s {data:=#[42]} then (⟨(opAt 11).2.1,(opAt 11).2.2.1,[],[],0⟩,(opAt 11).2.2.2) else if isP zs T s {data:=#[47,47]} then (⟨(opAt 12).2.1,(opAt 12).2.2.1,[],[],0⟩,(opAt 12).2.2.2) else if isP zs T s {data:=#[37]} then (⟨(opAt 13).2.1,(opAt 13).2.2.1,[],[],0⟩,(opAt 13).2.2.2) else if isP zs T s {data:=#[46,46]} then (⟨(opAt 8).2.1,(opAt 8).2.2.1,[],[],0⟩,(opAt 8).2.2.2) else if isP zs T s {data:=#[61,61]} then (⟨(opAt 2).2.1,(opAt 2).2.2.1,[],[],0⟩,(opAt 2).2.2.2) else if isP zs T s {data:=#[126,61]} then (⟨(opAt 3).2.1,(opAt 3).2.2.1,[],[],0⟩,(opAt 3).2.2.2) else if isP zs T s {data:=#[60]} then (⟨(opAt 4).2.1,(opAt 4).2.2.1,[],[],0⟩,(opAt 4).2.2.2) else if isP zs T s {data:=#[60,61]} then (⟨(opAt 5).2.1,(opAt 5).2.2.1,[],[],0⟩,(opAt 5).2.2.2) else if isP zs T s {data:=#[62]} then (⟨(opAt 6).2.1,(opAt 6).2.2.1,[],[],0⟩,(opAt 6).2.2.2) else if isP zs T s {data:=#[62,61]} then (⟨(opAt 7).2.1,(opAt 7).2.2.1,[],[],0⟩,(opAt 7).2.2.2) else (nd0,0):=rfl
theorem look_oper {E:En} {w:World} {g:Nat} {s:Ps} (hI:Ir E) (h:Ip E w g s):∃sg,look (strOfNums (lex.part E.zs (tok E s.at_).2.1 (tok E s.at_).2.2))=(sg,(ps.oper E.zs E.T s).1.kind,(ps.oper E.zs E.T s).1.n,(ps.oper E.zs E.T s).2)∧(sg.toList==[46,46])=decide ((ps.oper E.zs E.T s).2=4)∧(ps.oper E.zs E.T s).1=⟨(ps.oper E.zs E.T s).1.kind,(ps.oper E.zs E.T s).1.n,[],[],0⟩:=by
 have I:=fun (t:ByteArray) (ht:isLit t=true)=>h.is hI (lit_mem ht)
 generalize strOfNums (lex.part E.zs (tok E s.at_).2.1 (tok E s.at_).2.2)=x at I ⊢
 rw [oper_un]
 rw [I {data:=#[111,114]} (by kernel_rfl),I {data:=#[97,110,100]} (by kernel_rfl),I {data:=#[43]} (by kernel_rfl),I {data:=#[45]} (by kernel_rfl),I {data:=#[42]} (by kernel_rfl),I {data:=#[47,47]} (by kernel_rfl),I {data:=#[37]} (by kernel_rfl),I {data:=#[46,46]} (by kernel_rfl),I {data:=#[61,61]} (by kernel_rfl),I {data:=#[126,61]} (by kernel_rfl),I {data:=#[60]} (by kernel_rfl),I {data:=#[60,61]} (by kernel_rfl),I {data:=#[62]} (by kernel_rfl),I {data:=#[62,61]} (by kernel_rfl)]
 by_cases hx:∃k,k<14∧((opAt k).1.toList==x.toList)=true
 ·obtain ⟨k,hk,he⟩:=hx
  have hx:x.toList=(opAt k).1.toList:=(beq_iff_eq.1 he).symm
  have hlk:look x=opAt k:=look_hit hk he (fun j hj=>by
   rw [hx,toList_mk,toList_mk]
   exact differ k j hk hj)
  rw [hlk,hx]
  clear hlk he hx I
  have hc:k=0∨k=1∨k=2∨k=3∨k=4∨k=5∨k=6∨k=7∨k=8∨k=9∨k=10∨k=11∨k=12∨k=13:=by omega
  simp only [toList_mk]
  rcases hc with rfl|rfl|rfl|rfl|rfl|rfl|rfl|rfl|rfl|rfl|rfl|rfl|rfl|rfl
  all_goals exact ⟨_,rfl,by kernel_rfl,rfl⟩
 ·have hn:∀j,j<14→((opAt j).1.toList==x.toList)=false:=fun j hj=>by
   cases hq:((opAt j).1.toList==x.toList) with
   |false=>rfl
   |true=>exact absurd ⟨j,hj,hq⟩ hx
  have F:∀j,j<14→(x.toList==(opAt j).1.toList)=false:=fun j hj=>by
   rw [Bool.eq_false_iff]
   intro hc
   have:=hn j hj
   rw [beq_iff_eq.1 hc] at this
   simp at this
  have f0:(x.toList==({data:=#[111,114]}:ByteArray).toList)=false:=F 0 (by omega)
  have f1:(x.toList==({data:=#[97,110,100]}:ByteArray).toList)=false:=F 1 (by omega)
  have f9:(x.toList==({data:=#[43]}:ByteArray).toList)=false:=F 9 (by omega)
  have f10:(x.toList==({data:=#[45]}:ByteArray).toList)=false:=F 10 (by omega)
  have f11:(x.toList==({data:=#[42]}:ByteArray).toList)=false:=F 11 (by omega)
  have f12:(x.toList==({data:=#[47,47]}:ByteArray).toList)=false:=F 12 (by omega)
  have f13:(x.toList==({data:=#[37]}:ByteArray).toList)=false:=F 13 (by omega)
  have f8:(x.toList==({data:=#[46,46]}:ByteArray).toList)=false:=F 8 (by omega)
  have f2:(x.toList==({data:=#[61,61]}:ByteArray).toList)=false:=F 2 (by omega)
  have f3:(x.toList==({data:=#[126,61]}:ByteArray).toList)=false:=F 3 (by omega)
  have f4:(x.toList==({data:=#[60]}:ByteArray).toList)=false:=F 4 (by omega)
  have f5:(x.toList==({data:=#[60,61]}:ByteArray).toList)=false:=F 5 (by omega)
  have f6:(x.toList==({data:=#[62]}:ByteArray).toList)=false:=F 6 (by omega)
  have f7:(x.toList==({data:=#[62,61]}:ByteArray).toList)=false:=F 7 (by omega)
  rw [look_miss hn,f0,f1,f9,f10,f11,f12,f13,f8,f2,f3,f4,f5,f6,f7]
  exact ⟨_,rfl,by simp [toList_mk],rfl⟩
end ip
end Go.Proofs.YtkmiagkehcflnaaGreatDoor
