import Derived.Deep.RegionHeld3
import Derived.RegionDies
import Derived.Test.YtkmiagkehcflnaaGreatDoorMIpTab
import Derived.Test.YtkmiagkehcflnaaGreatDoorMIpClone
import Derived.Test.YtkmiagkehcflnaaGreatDoorMLexToks
import Derived.Test.YtkmiagkehcflnaaGreatDoorMIpPure
import Derived.Test.YtkmiagkehcflnaaGreatDoorMIpMk
set_option maxRecDepth 100000
set_option maxHeartbeats 8000000
namespace Go.Proofs.YtkmiagkehcflnaaGreatDoor
namespace ip
open Go.RowKit bts nod lex tk vt
open ps (En Ps isP kindP now wrong step want got nameT nameS textOf over)
def tok (E:En) (k:Nat):Int×Nat×Nat:=(E.T++[(0,E.zs.length,0)]).getD k (0,0,0)
structure Ir (E:En):Prop where
 bts:Bts E.zs
 src:Rd E.w0 E.sv E.zs
 zero:(E.sv=none∧E.sc=0∧E.zs.length=0)∨∃b,E.sv=some ⟨b,0,none⟩
 toks:RdT E.w0 E.tv (E.T++[(0,E.zs.length,0)])
 ord:Toks E.zs 0 E.T
 size:E.zs.length≤6000
 many:E.T.length≤6000
 room:E.zs.length≤E.sc
 most:E.sc≤9223372036854775807
 ops:Opr E.w0
def Ip (E:En) (w:World) (g:Nat) (s:Ps):Prop :=
 Below E.w0.heap.size E.w0 w∧E.w0.heap.size≤g∧tk.Lone 91 4 w g [.slice E.sv E.zs.length E.sc,.slice E.tv (E.T.length+1) E.tc,.int .i64 (s.at_:Int),.bool s.loop]∧s.at_≤E.T.length∧s.bad<0
def flt (b:Int):List PanicEntry:=[{v:=.iface 45 (.agg #[.int .i64 2,.int .i64 b]),recovered:=false}]
section
variable {E:En} {w w':World} {g:Nat} {s:Ps}
theorem tok_lt {k:Nat} (h:k<E.T.length):tok E k=E.T.getD k (0,0,0):=by
 unfold tok
 rw [List.getD_eq_getElem?_getD,List.getElem?_append_left h,← List.getD_eq_getElem?_getD]
theorem tok_end:tok E E.T.length=(0,E.zs.length,0):=by simp [tok]
theorem Ir.fits (hI:Ir E) {k:Nat} (h:k≤E.T.length):(tok E k).2.1+(tok E k).2.2≤E.zs.length:=by
 rcases Nat.lt_or_ge k E.T.length with h1|h1
 ·rw [tok_lt h1];exact (toks_at hI.ord h1).2.1
 ·rw [show k=E.T.length by omega,tok_end];simp
theorem Ip.lt (h:Ip E w g s):g<w.heap.size:=heap_lt h.2.2.1.back
theorem Ip.keep (h:Ip E w g s) (hb:Below w.heap.size w w'):Ip E w' g s :=
 ⟨h.1.trans (hb.mono h.1.size),h.2.1,h.2.2.1.below hb h.lt,h.2.2.2⟩
theorem Ip.drew (h:Ip E w g s) (m:Nat):Ip E (w.drewN m) g s:=⟨tk.bel_drewN h.1 m,h.2.1,drew_lone h.2.2.1 m,h.2.2.2⟩
theorem Ip.wrong (h:Ip E w g s):(ps.wrong E.zs E.T s).bad=((tok E s.at_).2.1:Int):=by
 have h1:=h.2.2.2.1
 have h2:=h.2.2.2.2
 unfold ps.wrong
 rw [if_neg (by omega)]
 rcases Nat.lt_or_ge s.at_ E.T.length with h3|h3
 ·rw [tok_lt h3];simp [h3]
 ·rw [show s.at_=E.T.length by omega,tok_end];simp
theorem Ip.kind (h:Ip E w g s):kindP E.T s=(tok E s.at_).1:=by
 have h1:=h.2.2.2.1
 have h2:=h.2.2.2.2
 unfold kindP
 rcases Nat.lt_or_ge s.at_ E.T.length with h3|h3
 ·rw [tok_lt h3,ps.over_no (by omega) h3];rfl
 ·rw [show s.at_=E.T.length by omega,tok_end,ps.over_end (by omega)];rfl
theorem Ip.now (h:Ip E w g s):ps.now E.zs E.T s=strOfNums (lex.part E.zs (tok E s.at_).2.1 (tok E s.at_).2.2):=by
 have h1:=h.2.2.2.1
 have h2:=h.2.2.2.2
 unfold ps.now
 rcases Nat.lt_or_ge s.at_ E.T.length with h3|h3
 ·rw [tok_lt h3,ps.over_no (by omega) h3];rfl
 ·rw [show s.at_=E.T.length by omega,tok_end,ps.over_end (by omega)]
  simp [lex.part,strOfNums]
theorem Ip.is (hI:Ir E) (h:Ip E w g s) {t:ByteArray} (ht:t∈lits):isP E.zs E.T s t=((strOfNums (lex.part E.zs (tok E s.at_).2.1 (tok E s.at_).2.2)).toList==t.toList):=by
 have h1:=h.2.2.2.1
 have h2:=h.2.2.2.2
 rcases Nat.lt_or_ge s.at_ E.T.length with h3|h3
 ·rw [is_lit hI.bts hI.ord ht (by omega) h3,tok_lt h3];rfl
 ·rw [is_end h3,show s.at_=E.T.length by omega,tok_end]
  obtain ⟨c,r,e,_⟩:=lits_first t ht
  rw [e,str_list]
  simp [lex.part]
end
def bo (E:En) (a:Nat):Option Addr:=if E.sc=a then E.sv else E.sv.map fun b=>⟨b.block,a,none⟩
section
variable {E:En} {w:World} {g:Nat} {s:Ps}
theorem fail_any (hI:Ir E) (h:Ip E w g s) :
  Calls Tryz.prog 43 #[.pointer (some ⟨g,0,none⟩)] w fun e w'=>e=.panicked (flt (wrong E.zs E.T s).bad)∧∃m,w'=w.drewN m:=by
 rw [h.wrong]
 obtain ⟨h1,h2,hL,hi,hb⟩:=h
 have c1:w.cell? ⟨g,1,none⟩=some (.slice E.tv (E.T.length+1) E.tc):=hL.at (j:=1) (by omega)
 have c2:w.cell? ⟨g,2,none⟩=some (.int .i64 (s.at_:Int)):=hL.at (j:=2) (by omega)
 have d3:(s.at_:Int)<((E.T.length+1:Nat):Int):=by omega
 obtain ⟨gT,e,t0,t1,t2⟩:=hI.toks.below h1 s.at_ (by simp;omega)
 rw [e] at c1
 unfold tok flt
 generalize (E.T++[(0,E.zs.length,0)]).getD s.at_ (0,0,0)=q at *
 generalize E.T.length+1=n at *
 obtain ⟨kd,a,m⟩:=q
 simp only at *
 clear h1 h2 hL hI e hb t0 t2
 go_enter Tryz.func43,Tryz.ntmps43
 go_wp2_with fail
 go_region_dies
 all_goals exact ⟨rfl,rfl,1,rfl⟩
theorem bytesOf_any (hI:Ir E) (h:Ip E w g s) (kd:Int) {a n:Nat} (ha:a+n≤E.zs.length) :
  Calls Tryz.prog 102 #[.pointer (some ⟨g,0,none⟩),.agg #[.int .i64 kd,.int .i64 a,.int .i64 n]] w fun e w'=>e=.returned (.slice (bo E a) n (E.sc-a))∧Below w.heap.size w w':=by
 obtain ⟨h1,h2,hL,hi,hb⟩:=h
 have c0:w.cell? ⟨g,0,none⟩=some (.slice E.sv E.zs.length E.sc):=hL.at (j:=0) (by omega)
 have hsz:=hI.size
 have hrm:=hI.room
 have hmo:=hI.most
 have hz:=hI.zero
 have a0:∀o,(w.alloc o).cell? ⟨g,0,none⟩=some (.slice E.sv E.zs.length E.sc):=fun o=>cellB c0 ((Below.refl _ _).alloc (Nat.le_refl _) o)
 unfold bo
 obtain ⟨sv,hsv⟩:∃x,x=E.sv:=⟨_,rfl⟩
 rw [← hsv] at hz a0 ⊢
 clear hsv
 generalize E.sc=sc at *
 generalize E.zs.length=nz at *
 have i2:(a:Int)≤(a:Int)+(n:Int):=by omega
 have i3:(a:Int)+(n:Int)≤(sc:Int):=by omega
 clear h1 h2 hL hI hi hb c0
 rcases hz with ⟨rfl,rfl,rfl⟩|⟨b,rfl⟩
 ·obtain ⟨rfl,rfl⟩:a=0∧n=0:=by omega
  go_enter Tryz.func102,Tryz.ntmps102
  go_wp2_with fail
  go_quiet (fail)
  go_wp2
  go_returns
  exact ⟨rfl,tk.bel_drewN ((Below.refl _ _).alloc (Nat.le_refl _) _) _⟩
 ·by_cases i4:sc=a
  ·subst i4
   obtain rfl:n=0:=by omega
   rw [if_pos rfl,Nat.sub_self]
   go_enter Tryz.func102,Tryz.ntmps102
   go_wp2_with fail
   go_quiet (fail)
   go_wp2
   go_returns
   exact ⟨rfl,tk.bel_drewN ((Below.refl _ _).alloc (Nat.le_refl _) _) _⟩
  ·rw [if_neg i4,Option.map_some]
   go_enter Tryz.func102,Tryz.ntmps102
   go_wp2_with fail
   go_quiet (fail)
   go_wp2
   go_returns
   exact ⟨by show Ending.returned (.slice _ (a+n-a) _)=_;rw [Nat.add_sub_cancel_left],tk.bel_drewN ((Below.refl _ _).alloc (Nat.le_refl _) _) _⟩
theorem conv_bo (hI:Ir E) {W:World} (hB:Below E.w0.heap.size E.w0 W) {a n:Nat} (ha:a+n≤E.zs.length):(convert 22 9 (.slice (bo E a) n (E.sc-a))).run Tryz.prog W=.ok (.string (strOfNums (lex.part E.zs a n))) W:=by
 have hrm:=hI.room
 rcases hI.zero with ⟨e1,e2,e3⟩|⟨b,e1⟩
 ·obtain ⟨rfl,rfl⟩:a=0∧n=0:=by omega
  unfold bo
  rw [e1,e2,if_pos rfl]
  simp only [lex.part,List.take_zero]
  exact run_convert_bytes_nil W 22 5 Tryz.underlying22 Tryz.underlying5 0 0 9 Tryz.underlying9
 ·unfold bo
  rw [e1]
  have hr:Rd W (some ⟨b,0,none⟩) E.zs:=by rw [← e1];exact hI.src.below hB
  have hc:∀i,i<E.zs.length→W.cell? ⟨b,i,none⟩=some (.int .u8 (E.zs.getD i 0)):=fun i hi=>by
   obtain ⟨b2,o2,e,hc⟩:=hr i hi
   simp only [Option.some.injEq,Addr.mk.injEq,and_true] at e
   obtain ⟨rfl,rfl⟩:=e
   rwa [Nat.zero_add] at hc
  by_cases i4:E.sc=a
  ·rw [if_pos i4]
   obtain rfl:n=0:=by omega
   have:=conv_part b 0 0 (E.sc-a) E.zs W hc (by omega)
   simpa [lex.part] using this
  ·rw [if_neg i4,Option.map_some]
   exact conv_part b a n (E.sc-a) E.zs W hc ha
theorem rd_bo (hI:Ir E) {W:World} (hB:Below E.w0.heap.size E.w0 W) {a n:Nat} (ha:a+n≤E.zs.length):Rd W (bo E a) (lex.part E.zs a n):=by
 intro i hi
 rw [part_len ha] at hi
 have hrm:=hI.room
 obtain ⟨b,off,e,hc⟩:=(hI.src.below hB) (a+i) (by omega)
 rcases hI.zero with ⟨_,_,e3⟩|⟨b',e1⟩
 ·omega
 ·rw [e1] at e
  simp only [Option.some.injEq,Addr.mk.injEq,and_true] at e
  obtain ⟨rfl,rfl⟩:=e
  unfold bo
  rw [e1,if_neg (by omega)]
  exact ⟨b',a,rfl,by rw [part_getD hi];rwa [Nat.zero_add] at hc⟩
theorem sees_any (hI:Ir E) (h:Ip E w g s) {t:ByteArray} (ht:t∈lits) :
  Calls Tryz.prog 81 #[.pointer (some ⟨g,0,none⟩),.string t] w fun e w'=>e=.returned (.bool (isP E.zs E.T s t))∧Below w.heap.size w w':=by
 rw [h.is hI ht]
 have hf:=hI.fits h.2.2.2.1
 have B:Hid (∀W,Below w.heap.size w W→Calls Tryz.prog 102 #[.pointer (some ⟨g,0,none⟩),.agg #[.int .i64 (tok E s.at_).1,.int .i64 (tok E s.at_).2.1,.int .i64 (tok E s.at_).2.2]] W fun e w'=>e=.returned (.slice (bo E (tok E s.at_).2.1) (tok E s.at_).2.2 (E.sc-(tok E s.at_).2.1))∧Below W.heap.size W w'):=fun W hW=>bytesOf_any hI (h.keep hW) _ hf
 have V:Hid (∀W,Below w.heap.size w W→(convert 22 9 (.slice (bo E (tok E s.at_).2.1) (tok E s.at_).2.2 (E.sc-(tok E s.at_).2.1))).run Tryz.prog W=.ok (.string (strOfNums (lex.part E.zs (tok E s.at_).2.1 (tok E s.at_).2.2))) W):=fun W hW=>conv_bo hI (h.keep hW).1 hf
 obtain ⟨h1,h2,hL,hi,hb⟩:=h
 have c1:w.cell? ⟨g,1,none⟩=some (.slice E.tv (E.T.length+1) E.tc):=hL.at (j:=1) (by omega)
 have c2:w.cell? ⟨g,2,none⟩=some (.int .i64 (s.at_:Int)):=hL.at (j:=2) (by omega)
 have d3:(s.at_:Int)<((E.T.length+1:Nat):Int):=by omega
 obtain ⟨gT,e,t0,t1,t2⟩:=hI.toks.below h1 s.at_ (by simp;omega)
 change w.cell? _=some (.int .i64 (tok E s.at_).1) at t0
 change w.cell? _=some (.int .i64 ((tok E s.at_).2.1:Int)) at t1
 change w.cell? _=some (.int .i64 ((tok E s.at_).2.2:Int)) at t2
 rw [e] at c1
 generalize strOfNums (lex.part E.zs (tok E s.at_).2.1 (tok E s.at_).2.2)=x at V ⊢
 generalize bo E (tok E s.at_).2.1=bv at B V
 generalize E.sc-(tok E s.at_).2.1=bc at B V
 generalize (tok E s.at_).1=kd at *
 generalize (tok E s.at_).2.1=a at *
 generalize (tok E s.at_).2.2=n at *
 generalize E.T.length+1=nT at *
 have HC:Hid (∀W,Below w.heap.size w W→W.cell? ⟨g,1,none⟩=some (.slice (some ⟨gT,0,none⟩) nT E.tc)∧W.cell? ⟨g,2,none⟩=some (.int .i64 (s.at_:Int))∧W.cell? ⟨gT,s.at_*3,none⟩=some (.int .i64 kd)∧W.cell? ⟨gT,s.at_*3+1,none⟩=some (.int .i64 (a:Int))∧W.cell? ⟨gT,s.at_*3+2,none⟩=some (.int .i64 (n:Int))∧(convert 22 9 (.slice bv n bc)).run Tryz.prog W=.ok (.string x) W):=fun W hW=>⟨cellB c1 hW,cellB c2 hW,cellB t0 hW,cellB t1 hW,cellB t2 hW,V.out W hW⟩
 clear h1 h2 hL hI e hb hf c1 c2 t0 t1 t2
 go_enter Tryz.func81,Tryz.ntmps81
 go_wp2_with fail
 go_region_held3 (fun W=>W.cell? ⟨g,1,none⟩=some (.slice (some ⟨gT,0,none⟩) nT E.tc)∧W.cell? ⟨g,2,none⟩=some (.int .i64 (s.at_:Int))∧W.cell? ⟨gT,s.at_*3,none⟩=some (.int .i64 kd)∧W.cell? ⟨gT,s.at_*3+1,none⟩=some (.int .i64 (a:Int))∧W.cell? ⟨gT,s.at_*3+2,none⟩=some (.int .i64 (n:Int))∧(convert 22 9 (.slice bv n bc)).run Tryz.prog W=.ok (.string x) W) (first|exact HC.out _ (by repeat (first|exact Below.refl _ _|exact HB.out|refine Below.drew ?_|refine tk.bel_drewN ?_ _))) ((go_at_call 102;refine (B.out _ (by repeat (first|exact Below.refl _ _|refine Below.drew ?_|refine tk.bel_drewN ?_ _))).mono ?_;rintro e w1 ⟨rfl,hb⟩;have HB:Hid (Below w.heap.size w w1):=Below.trans (by repeat (first|exact Below.refl _ _|refine Below.drew ?_|refine tk.bel_drewN ?_ _)) hb;clear hb))
 go_wp2
 go_returns
 exact ⟨rfl,HB.out⟩
end
end ip
namespace ip
open Go.RowKit bts nod lex tk vt
open ps (En Ps isP kindP now wrong step want got nameT nameS textOf over)
theorem nums_str {xs:List Int} (h:Bts xs):nums (strOfNums xs)=xs:=by
 unfold nums
 rw [strOfNums_data,List.map_map]
 refine List.ext_getElem (by simp) fun i h1 h2=>?_
 have:=h i
 rw [List.getD_eq_getElem?_getD,List.getElem?_eq_getElem h2] at this
 simp only [Option.getD_some] at this
 simp only [List.getElem_map,Function.comp_apply,UInt8.toNat_ofNat']
 omega
section
variable {E:En} {w w':World} {g:Nat} {s:Ps}
theorem fq_bel (h:Ip E w g s) (hb:Below w.heap.size w w'):Fq g w w':=.of (Nat.le_of_lt h.lt) hb
theorem ip_step (h:Ip E w g s) (hlt:s.at_<E.T.length):Ip E (w.setCell ⟨g,2,none⟩ (.int .i64 ((s.at_:Int)+1))) g (ps.step s):=by
 refine ⟨h.1.setCell (p:=⟨g,2,none⟩) h.2.1 _,h.2.1,?_,hlt,h.2.2.2.2⟩
 have:=h.2.2.1.set 2 (.int .i64 ((s.at_:Int)+1))
 simpa [ps.step] using this
theorem Ip.small (hI:Ir E) (h:Ip E w g s):s.at_≤6000:=Nat.le_trans h.2.2.2.1 hI.many
theorem Ip.c2 (h:Ip E w g s):w.cell? ⟨g,2,none⟩=some (.int .i64 (s.at_:Int)):=h.2.2.1.at (j:=2) (by omega)
theorem Ip.c3 (h:Ip E w g s):w.cell? ⟨g,3,none⟩=some (.bool s.loop):=h.2.2.1.at (j:=3) (by omega)
theorem Ip.loop (h:Ip E w g s) (b:Bool):Ip E (w.setCell ⟨g,3,none⟩ (.bool b)) g {s with loop:=b}:=by
 refine ⟨h.1.setCell (p:=⟨g,3,none⟩) h.2.1 _,h.2.1,?_,h.2.2.2⟩
 have:=h.2.2.1.set 3 (.bool b)
 simpa using this
theorem accepts_any (hI:Ir E) (h:Ip E w g s) {t:ByteArray} (ht:t∈lits) :
  Calls Tryz.prog 83 #[.pointer (some ⟨g,0,none⟩),.string t] w fun e w'=>e=.returned (.bool (isP E.zs E.T s t))∧Ip E w' g (got E.zs E.T s t)∧Fq g w w':=by
 have HP:Hid (Ip E w g s):=h
 have IS:Hid (Calls Tryz.prog 81 #[.pointer (some ⟨g,0,none⟩),.string t] w fun e w'=>e=.returned (.bool (isP E.zs E.T s t))∧Below w.heap.size w w'):=sees_any hI h ht
 have HM:=h.small hI
 unfold got
 cases hi:isP E.zs E.T s t
 ·rw [hi] at IS
  rw [if_neg (by decide)]
  clear hI h hi
  go_enter Tryz.func83,Tryz.ntmps83
  go_wp2_with (go_at_call 81;refine Calls.mono IS.out ?_;rintro e w1 ⟨rfl,hb⟩;have B1:Hid (Below w.heap.size w w1):=hb;clear hb)
  go_returns
  exact ⟨rfl,HP.out.keep B1.out,fq_bel HP.out B1.out⟩
 ·have hlt:=(ps.is_bad hi).2
  rw [hi] at IS
  rw [if_pos rfl]
  clear hI h hi
  go_enter Tryz.func83,Tryz.ntmps83
  go_wp2_with (go_at_call 81;refine Calls.mono IS.out ?_;rintro e w1 ⟨rfl,hb⟩;have P1:Hid (Ip E w1 g s):=HP.out.keep hb;have F1:Hid (Fq g w w1):=fq_bel HP.out hb;have c2:w1.cell? ⟨g,2,none⟩=some (.int .i64 (s.at_:Int)):=P1.out.c2;have f2:=P1.out.2.2.1.free 2;clear hb)
  go_returns
  exact ⟨rfl,ip_step P1.out hlt,F1.out.trans (Fq.set _ _)⟩
def Px (s':Ps) (g:Nat) (w:World) (R:Value→World→Prop) (e:Ending) (w':World):Prop :=
 Fq g w w'∧((s'.bad<0∧∃v,e=.returned v∧R v w')∨(0≤s'.bad∧e=.panicked (flt s'.bad)))
theorem expect_any (hI:Ir E) (h:Ip E w g s) {t:ByteArray} (ht:t∈lits) :
  Calls Tryz.prog 106 #[.pointer (some ⟨g,0,none⟩),.string t] w (Px (want E.zs E.T s t) g w fun _ w'=>Ip E w' g (want E.zs E.T s t)):=by
 have HP:Hid (Ip E w g s):=h
 have HI:Hid (Ir E):=hI
 have IS:Hid (Calls Tryz.prog 83 #[.pointer (some ⟨g,0,none⟩),.string t] w fun e w'=>e=.returned (.bool (isP E.zs E.T s t))∧Ip E w' g (got E.zs E.T s t)∧Fq g w w'):=accepts_any hI h ht
 cases hi:isP E.zs E.T s t
 ·rw [hi,show got E.zs E.T s t=s by unfold got;rw [hi];rfl] at IS
  rw [want_no hi]
  clear hI h hi
  go_enter Tryz.func106,Tryz.ntmps106
  go_wp2_with (first
   |(go_at_call 83;refine Calls.mono IS.out ?_;rintro e w1 ⟨rfl,hP,hF⟩;have P1:Hid (Ip E w1 g s):=hP;have F1:Hid (Fq g w w1):=hF;clear hP hF)
   |(go_at_call 43;refine (fail_any HI.out P1.out).mono ?_;rintro e w2 ⟨rfl,m,rfl⟩))
  exact ⟨rfl,F1.out.drewN _,.inr ⟨(ps.wrong_f _ _ _).2,rfl⟩⟩
 ·rw [hi] at IS
  have e1:got E.zs E.T s t=ps.step s:=by unfold got;rw [hi];rfl
  rw [e1] at IS
  rw [want_yes hi]
  clear hI h hi e1
  go_enter Tryz.func106,Tryz.ntmps106
  go_wp2_with (go_at_call 83;refine Calls.mono IS.out ?_;rintro e w1 ⟨rfl,hP,hF⟩;have P1:Hid (Ip E w1 g (ps.step s)):=hP;have F1:Hid (Fq g w w1):=hF;clear hP hF)
  go_returns
  exact ⟨F1.out,.inl ⟨P1.out.2.2.2.2,_,rfl,P1.out⟩⟩
theorem take_yes (hI:Ir E) (h:Ip E w g s) {k:Int} (hk:kindP E.T s=k) (h0:¬k=0) :
  Calls Tryz.prog 116 #[.pointer (some ⟨g,0,none⟩),.int .i64 k] w fun e w'=>∃a c,e=.returned (.slice a (nums (now E.zs E.T s)).length c)∧OwT w' w.heap.size w'.heap.size (.slice a (nums (now E.zs E.T s)).length c) (nums (now E.zs E.T s))∧Ip E w' g (ps.step s)∧Fq g w w':=by
 have hlt:=(ps.kind_bad hk h0).2
 have hf:=hI.fits h.2.2.2.1
 have hx:nums (now E.zs E.T s)=lex.part E.zs (tok E s.at_).2.1 (tok E s.at_).2.2:=by
  rw [h.now]
  exact nums_str (lex.part_bts hI.bts _ _)
 rw [hx]
 have hsz:=hI.size
 have hpl:=lex.part_len hf
 have HBt:Hid (Bts (lex.part E.zs (tok E s.at_).2.1 (tok E s.at_).2.2)):=lex.part_bts hI.bts _ _
 have HP:Hid (Ip E w g s):=h
 rw [h.kind] at hk
 have HM:=h.small hI
 have B:Hid (∀W,Ip E W g (ps.step s)→Calls Tryz.prog 102 #[.pointer (some ⟨g,0,none⟩),.agg #[.int .i64 (tok E s.at_).1,.int .i64 (tok E s.at_).2.1,.int .i64 (tok E s.at_).2.2]] W fun e w'=>e=.returned (.slice (bo E (tok E s.at_).2.1) (tok E s.at_).2.2 (E.sc-(tok E s.at_).2.1))∧Below W.heap.size W w'):=fun W hW=>bytesOf_any hI hW _ hf
 have R:Hid (∀W,Ip E W g (ps.step s)→Rd W (bo E (tok E s.at_).2.1) (lex.part E.zs (tok E s.at_).2.1 (tok E s.at_).2.2)):=fun W hW=>rd_bo hI hW.1 hf
 have c1:w.cell? ⟨g,1,none⟩=some (.slice E.tv (E.T.length+1) E.tc):=h.2.2.1.at (j:=1) (by omega)
 have c2:w.cell? ⟨g,2,none⟩=some (.int .i64 (s.at_:Int)):=h.c2
 have d3:(s.at_:Int)<((E.T.length+1:Nat):Int):=by omega
 obtain ⟨gT,e,t0,t1,t2⟩:=hI.toks.below h.1 s.at_ (by simp;omega)
 change w.cell? _=some (.int .i64 (tok E s.at_).1) at t0
 change w.cell? _=some (.int .i64 ((tok E s.at_).2.1:Int)) at t1
 change w.cell? _=some (.int .i64 ((tok E s.at_).2.2:Int)) at t2
 rw [e] at c1
 rw [hk] at B t0
 generalize lex.part E.zs (tok E s.at_).2.1 (tok E s.at_).2.2=x at R HBt hpl ⊢
 generalize bo E (tok E s.at_).2.1=bv at B R
 generalize E.sc-(tok E s.at_).2.1=bc at B
 generalize (tok E s.at_).2.1=a at *
 generalize (tok E s.at_).2.2=n at *
 generalize E.T.length+1=nT at *
 have hn6:n≤6000:=by omega
 have HC:Hid (∀W,Below w.heap.size w W→W.cell? ⟨g,1,none⟩=some (.slice (some ⟨gT,0,none⟩) nT E.tc)∧W.cell? ⟨g,2,none⟩=some (.int .i64 (s.at_:Int))∧W.cell? ⟨gT,s.at_*3,none⟩=some (.int .i64 k)∧W.cell? ⟨gT,s.at_*3+1,none⟩=some (.int .i64 (a:Int))∧W.cell? ⟨gT,s.at_*3+2,none⟩=some (.int .i64 (n:Int))):=fun W hW=>⟨cellB c1 hW,cellB c2 hW,cellB t0 hW,cellB t1 hW,cellB t2 hW⟩
 clear hI e hf hx h hk c1 c2 t0 t1 t2 hsz
 go_enter Tryz.func116,Tryz.ntmps116
 go_wp2_with fail
 go_region_held3 (fun W=>W.cell? ⟨g,1,none⟩=some (.slice (some ⟨gT,0,none⟩) nT E.tc)∧W.cell? ⟨g,2,none⟩=some (.int .i64 (s.at_:Int))∧W.cell? ⟨gT,s.at_*3,none⟩=some (.int .i64 k)∧W.cell? ⟨gT,s.at_*3+1,none⟩=some (.int .i64 (a:Int))∧W.cell? ⟨gT,s.at_*3+2,none⟩=some (.int .i64 (n:Int))) (first|exact HC.out _ (by repeat (first|exact Below.refl _ _|refine Below.drew ?_|refine tk.bel_drewN ?_ _|refine Below.alloc ?_ (Nat.le_refl _) _))) (fail)
 obtain ⟨W2,hW2⟩:∃W2,W2=(w.alloc (.cells #[.int .i64 k,.int .i64 (a:Int),.int .i64 (n:Int)] 68)).drew:=⟨_,rfl⟩
 have B2:Hid (Below w.heap.size w W2):=by rw [hW2];exact Below.drew ((Below.refl _ _).alloc (Nat.le_refl _) _)
 have y0:W2.cell? ⟨w.heap.size,0,none⟩=some (.int .i64 k):=by rw [hW2];exact World.cell?_alloc_new _ _ _ _
 have y1:W2.cell? ⟨w.heap.size,1,none⟩=some (.int .i64 (a:Int)):=by rw [hW2];exact World.cell?_alloc_new _ _ _ _
 have y2:W2.cell? ⟨w.heap.size,2,none⟩=some (.int .i64 (n:Int)):=by rw [hW2];exact World.cell?_alloc_new _ _ _ _
 have P2:Hid (Ip E W2 g s):=HP.out.keep B2.out
 have hgl:=HP.out.lt
 have hne:¬w.heap.size=g:=by omega
 have z:∀j u,(W2.setCell ⟨g,2,none⟩ u).cell? ⟨w.heap.size,j,none⟩=W2.cell? ⟨w.heap.size,j,none⟩:=fun j u=>World.cell?_setCell_other _ _ _ _ (by simp)
 have z0:=z 0 (.int .i64 ((s.at_:Int)+1))
 have z1:=z 1 (.int .i64 ((s.at_:Int)+1))
 have z2:=z 2 (.int .i64 ((s.at_:Int)+1))
 rw [y0] at z0
 rw [y1] at z1
 rw [y2] at z2
 have c2:W2.cell? ⟨g,2,none⟩=some (.int .i64 (s.at_:Int)):=P2.out.c2
 have f2:=P2.out.2.2.1.free 2
 have P3:Hid (Ip E (W2.setCell ⟨g,2,none⟩ (.int .i64 ((s.at_:Int)+1))) g (ps.step s)):=ip_step P2.out hlt
 have F3:Hid (Fq g w (W2.setCell ⟨g,2,none⟩ (.int .i64 ((s.at_:Int)+1)))):=(fq_bel HP.out B2.out).trans (Fq.set _ _)
 rw [← hW2]
 clear hW2 z HC y1 y2
 go_wp2_with (first
  |(go_at_call 102;refine (B.out _ P3.out).mono ?_;rintro e w4 ⟨rfl,hb⟩;have P4:Hid (Ip E w4 g (ps.step s)):=P3.out.keep hb;have F4:Hid (Fq g w w4):=F3.out.trans (fq_bel P3.out hb);clear hb z0 z1 z2)
  |(go_at_call 125;refine (cloneB_any bv n bc x _ hpl (R.out _ P4.out) (by omega)).mono ?_;rintro e w5 ⟨av,cv,rfl,ho,hb⟩;have P5:Hid (Ip E w5 g (ps.step s)):=P4.out.keep hb;have F5:Hid (Fq g w w5):=F4.out.trans (fq_bel P4.out hb);have O5:Hid (OwT w5 w.heap.size w5.heap.size (.slice av x.length cv) x):=⟨own_base ho F4.out.below.size,fun b e=>(ho.lt b e).2,HBt.out⟩;clear hb ho))
 go_returns
 exact ⟨av,cv,by rw [hpl];rfl,O5.out,P5.out,F5.out⟩
theorem take_no (hI:Ir E) (h:Ip E w g s) {k:Int} (hk:¬kindP E.T s=k) :
  Calls Tryz.prog 116 #[.pointer (some ⟨g,0,none⟩),.int .i64 k] w fun e w'=>e=.panicked (flt (wrong E.zs E.T s).bad)∧Fq g w w':=by
 have HP:Hid (Ip E w g s):=h
 have HI:Hid (Ir E):=hI
 rw [h.kind] at hk
 have c1:w.cell? ⟨g,1,none⟩=some (.slice E.tv (E.T.length+1) E.tc):=h.2.2.1.at (j:=1) (by omega)
 have c2:w.cell? ⟨g,2,none⟩=some (.int .i64 (s.at_:Int)):=h.c2
 have d3:(s.at_:Int)<((E.T.length+1:Nat):Int):=by have:=h.2.2.2.1;omega
 obtain ⟨gT,e,t0,t1,t2⟩:=hI.toks.below h.1 s.at_ (by have:=h.2.2.2.1;simp;omega)
 change w.cell? _=some (.int .i64 (tok E s.at_).1) at t0
 change w.cell? _=some (.int .i64 ((tok E s.at_).2.1:Int)) at t1
 change w.cell? _=some (.int .i64 ((tok E s.at_).2.2:Int)) at t2
 rw [e] at c1
 generalize (tok E s.at_).1=kd at *
 generalize (tok E s.at_).2.1=a at *
 generalize (tok E s.at_).2.2=n at *
 generalize E.T.length+1=nT at *
 have HC:Hid (∀W,Below w.heap.size w W→W.cell? ⟨g,1,none⟩=some (.slice (some ⟨gT,0,none⟩) nT E.tc)∧W.cell? ⟨g,2,none⟩=some (.int .i64 (s.at_:Int))∧W.cell? ⟨gT,s.at_*3,none⟩=some (.int .i64 kd)∧W.cell? ⟨gT,s.at_*3+1,none⟩=some (.int .i64 (a:Int))∧W.cell? ⟨gT,s.at_*3+2,none⟩=some (.int .i64 (n:Int))):=fun W hW=>⟨cellB c1 hW,cellB c2 hW,cellB t0 hW,cellB t1 hW,cellB t2 hW⟩
 clear hI e h c1 c2 t0 t1 t2
 go_enter Tryz.func116,Tryz.ntmps116
 go_wp2_with fail
 go_region_held3 (fun W=>W.cell? ⟨g,1,none⟩=some (.slice (some ⟨gT,0,none⟩) nT E.tc)∧W.cell? ⟨g,2,none⟩=some (.int .i64 (s.at_:Int))∧W.cell? ⟨gT,s.at_*3,none⟩=some (.int .i64 kd)∧W.cell? ⟨gT,s.at_*3+1,none⟩=some (.int .i64 (a:Int))∧W.cell? ⟨gT,s.at_*3+2,none⟩=some (.int .i64 (n:Int))) (first|exact HC.out _ (by repeat (first|exact Below.refl _ _|refine Below.drew ?_|refine tk.bel_drewN ?_ _|refine Below.alloc ?_ (Nat.le_refl _) _))) (fail)
 obtain ⟨W2,hW2⟩:∃W2,W2=(w.alloc (.cells #[.int .i64 kd,.int .i64 (a:Int),.int .i64 (n:Int)] 68)).drew:=⟨_,rfl⟩
 have B2:Hid (Below w.heap.size w W2):=by rw [hW2];exact Below.drew ((Below.refl _ _).alloc (Nat.le_refl _) _)
 have y0:W2.cell? ⟨w.heap.size,0,none⟩=some (.int .i64 kd):=by rw [hW2];exact World.cell?_alloc_new _ _ _ _
 have P2:Hid (Ip E W2 g s):=HP.out.keep B2.out
 have F2:Hid (Fq g w W2):=fq_bel HP.out B2.out
 rw [← hW2]
 clear hW2 HC
 go_wp2_with (go_at_call 43;refine (fail_any HI.out P2.out).mono ?_;rintro e w4 ⟨rfl,m4,rfl⟩;exact ⟨rfl,rfl,F2.out.drewN _⟩)
end
end ip
end Go.Proofs.YtkmiagkehcflnaaGreatDoor
