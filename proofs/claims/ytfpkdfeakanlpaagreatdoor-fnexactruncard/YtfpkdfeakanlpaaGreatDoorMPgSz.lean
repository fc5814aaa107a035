import Derived.Test.YtfpkdfeakanlpaaGreatDoorRows
import Derived.WalkKit
import Derived.ProofKit
import Derived.OpenShut
import Derived.WalkLawsBesides
import Derived.RegionTactic
import Derived.ChangeAlike
import Derived.BigQuiet
import Derived.Deep.QuietTactic
import Derived.Outline
import Derived.Deep.Slices
import Derived.OrdersHeld
import Derived.RangeFuncNested
import Derived.RangeFuncBound
import Derived.RangeFuncCalls
import Derived.RangeFuncLeaves
set_option linter.all false
set_option maxRecDepth 100000
set_option maxHeartbeats 8000000
namespace Go.Proofs.YtfpkdfeakanlpaaGreatDoor
open Go.RowKit
def cA:=@Calls.mono
def cB:=@List.getD_eq_getElem?_getD
def cE:=@Nat.le_refl
def cG:=@List.getElem?_eq_getElem
def cK:=@if_neg
def cN:=@Below.refl
def cR:=@if_pos
def cV:=@Nat.le_trans
def cZ:=@Below.heap_setCell
def de:=@Value.slice.injEq
def df:=@List.length_set
def dj:=@Nat.lt_of_lt_of_le
def dk:=@World.size_alloc
def dm:=@List.getElem?_set_ne
def dq:=@List.length_append
def dt:=@List.length_cons
def dy:=@World.block_lt_of_cell?
def dA:=@World.frozen?_of_block
def dB:=@Option.some.injEq
def dG:=@List.length_nil
def dJ:=@heap_alloc_new
def dK:=@World.cell?_of_block
def dM:=@Nat.zero_le
def dO:=@List.getElem?_eq_none
def dP:=@List.getElem?_set_self
def dS:=@Array.getElem?_eq_some_iff
def dT:=@Nat.not_lt_zero
def dU:=@Nat.zero_add
def dX:=@List.length_take
def dY:=@List.length_map
def eb:=@Below.drew
def ed:=@List.getElem?_map
def eh:=@List.not_mem_nil
def ey:=@List.cons_append
def eB:=@List.nil_append
def eD:=@Nat.add_zero
def eE:=@List.flatMap_cons
def eJ:=@List.length_eq_zero_iff
def eL:=@List.getD_cons_zero
def eM:=@List.getD_cons_succ
def eQ:=@List.mem_cons
def eS:=@bodyPost_ret
def eZ:=@List.length_drop
def fh:=@Int.toNat_natCast
def fj:=@decide_eq_false
def fA:=@List.getElem_mem
def fB:=@List.getElem?_append_right
def fC:=@Addr.mk.injEq
def fD:=@World.ownsRow_nil
def fG:=@List.getElem?_eq_some_iff
def fH:=@List.getElem?_append_left
def fK:=@List.mem_of_mem_drop
def fM:=@decide_eq_true
def fQ:=@info_parts
def fR:=@List.mem_cons_self
def fS:=@Prod.mk.injEq
def fT:=@Nat.le_add_right
def fY:=@Bool.and_eq_true
def ga:=@congrArg
def gh:=@Nat.zero_mul
def gC:=@lt_of_block
def gE:=@Nat.lt_irrefl
def gH:=@Below.heap_alloc
def gI:=@List.mem_append
def gK:=@Tryz.ntmps96
def gM:=@List.getElem_of_mem
def gS:=@List.prefix_refl
def gX:=@List.map_append
def ie:=@Tryz.underlying29
def ig:=@List.mem_cons_of_mem
def iw:=@or_false
def iz:=@Tryz.func96
def iA:=@List.cons.injEq
def iC:=@of_decide_eq_true
def iD:=@Result.andThen_ok
def iE:=@List.ext_getElem?
def iH:=@World.cell?_setCell_other
def iI:=@List.take_of_length_le
def iJ:=@List.mem_singleton
def iO:=@List.getElem?_range
def iP:=@ByteArray.toList_eq
def iQ:=@ownsRow_setCell_other
def iS:=@Sem.run_bind
def iZ:=@heap_alloc_old
def jb:=@List.setIfInBounds_toArray
def ji:=@Tryz.underlying9
def jj:=@List.mem_map
def jt:=@World.ownsRow_lit
def jA:=@List.getElem?_take_of_lt
def jB:=@Sem.run_pure
def jD:=@World.size_setCell
def jE:=@World.grownBy.refl
def jJ:=@Tryz.underlying5
def jK:=@Below.alloc
def jP:=@List.map_cons
def jQ:=@List.append_assoc
def jV:=@Nat.mul_one
def jW:=@Below.trans
def j8:=@Iff.rfl
def j9:=@List.length_singleton
def kl:=@results_cell_row
def kr:=@Tryz.ntmps74
def kB:=@Tryz.ntmps44
def kD:=@Tryz.ntmps187
def kE:=@Tryz.ntmps151
def kN:=@Tryz.underlying62
def kO:=@List.getElem?_cons_zero
def kP:=@Option.map_some
def kQ:=@Nat.le_max_left
def kR:=@List.range_succ
def kS:=@List.append_nil
def lB:=@Tryz.func187
def lC:=@Tryz.func151
def lD:=@Tryz.func74
def lE:=@Tryz.func44
def lF:=@Nat.one_mul
def lH:=@wpList_make_full
def lK:=@wpList_nil
def lM:=@heap_setCell_other
def lN:=@List.getElem?_drop
def lO:=@List.length_replicate
def lZ:=@List.drop_eq_getElem_cons
def mg:=@heap_setCell_same
def mh:=@Nat.le_succ_of_le
def mi:=@Nat.le_of_eq
def mm:=@List.take_succ_eq_append_getElem
def mq:=@DataW.trod_struct
def my:=@World.cell?_setCell_same
def mH:=@List.map_congr_left
def mI:=@Array.length_toList
def mJ:=@Tryz.underlying3
def mK:=@List.getElem?_cons_succ
def nB:=@trivial
def nC:=@Tryz.ntmps88
def nD:=@List.set_set
def nE:=@ByteArray.mk_append_mk
def nY:=@ownsRow_setCell_below
def nZ:=@Array.getElem?_toList
def oa:=@Array.getElem?_modify
def oe:=@List.length_range
def oq:=@beq_iff_eq
def ou:=@Tryz.func88
def ox:=@List.mem_of_mem_take
def oA:=@wpList_store_row
def oB:=@Nat.succ_mul
def oD:=@List.flatMap_nil
def oE:=@List.all_eq_true
def oN:=@List.mem_or_eq_of_mem_set
def oO:=@Classical.byContradiction
def py:=@Option.isSome_iff_exists
def pE:=@Option.some.inj
def pH:=@Nat.add_sub_cancel
def pN:=@rounds_succ
def pO:=@List.getElem?_replicate
def qt:=@congrFun
def qu:=@Tryz.underlying26
def qv:=@Nat.sub_self
def qw:=@List.size_toArray
def qz:=@List.drop_eq_nil_of_le
def qQ:=@Option.getD_some
def qR:=@List.take_length
def sr:=@Tryz.results165
def sw:=@Nat.min_eq_left
def sB:=@beq_eq_false_iff_ne
def sC:=@Int.toNat_of_nonneg
def sE:=@Oper.wp_mono
def sF:=@Nat.mul_comm
def tL:=@wp_loop_rounds
def tM:=@Nat.mul_le_mul
def tN:=@List.set_cons_zero
def tP:=@List.set_cons_succ
def tQ:=@List.mem_range
def tR:=@Below.mono
def uL:=@decide_eq_true_eq
def uM:=@Tryz.underlying51
def uN:=@Tryz.underlying31
def uO:=@Nat.le_succ
def uP:=@List.getElem?_set
def uQ:=@Bool.eq_false_iff
def uT:=@Tryz.ntmps165
def uU:=@Tryz.ntmps146
def vY:=@mem_ready
def vZ:=@List.getElem_map
def v7:=@IntKind.wrap_u64
def wX:=@ready_mono
def wY:=@if_true
def wZ:=@Tryz.ntmps95
def xc:=@Tryz.ntmps79
def xd:=@Tryz.ntmps75
def xe:=@Tryz.func3
def xg:=@Tryz.func165
def xi:=@Tryz.func146
def xj:=@Nat.lt_or_ge
def xl:=@List.map_map
def xm:=@Int.ofNat_lt
def xX:=@List.take_append_drop
def xY:=@List.mem_append_right
def zv:=@Array.getElem?_setIfInBounds_self_of_lt
def zM:=@setRow_heap
def zO:=@run_underlying
def zQ:=@Tryz.results88
def zU:=@Tryz.func95
def zX:=@Tryz.func79
def zY:=@Tryz.func75
def zZ:=@Region.noSelect_spec
def z8:=@List.mem_of_getElem?
def Aa:=@Array.replicate_zero
def Ab:=@Array.replicate_succ
def Bz:=@List.append_toArray
def Du:=@Tryz.results9
def Dv:=@Tryz.results6
def Dw:=@Tryz.ntmps169
def Dx:=@Tryz.ntmps137
def Dy:=@Nat.add_assoc
def DD:=@Tryz.underlying151
def DE:=@Tryz.underlying141
def DF:=@Nat.eq_zero_or_pos
def DG:=@Bool.false_eq_true
def FP:=@callsIn_wide
def FQ:=@Tryz.ntmps99
def FT:=@Tryz.ntmps89
def FU:=@Tryz.ntmps76
def FX:=@Tryz.ntmps56
def FY:=@Tryz.ntmps51
def FZ:=@Tryz.ntmps37
def F8:=@Tryz.ntmps21
def Ga:=@Tryz.ntmps20
def Gb:=@Tryz.func169
def Gc:=@Tryz.func137
def Gd:=@Nat.add_comm
def Ge:=@List.take_add_one
def Gf:=@List.push_toArray
def Gg:=@List.map_nil
def Gi:=@List.all_eq_false
def Ik:=@Array.getElem?_setIfInBounds_ne
def Jm:=@Region.free_spec
def Jo:=@List.mem_flatMap
def Jp:=@List.ext_getElem
def KZ:=@Tryz.func99
def K0:=@Tryz.func89
def K9:=@Tryz.func76
def La:=@Tryz.func56
def Lb:=@Tryz.func51
def Ld:=@Tryz.func37
def Lf:=@Tryz.func21
def Lg:=@Tryz.func20
def Ln:=@trodAll_cons_mk
def Lp:=@run_equalIn_int
def Lq:=@List.sum_append
def Lt:=@DataW.agg.injEq
def Ov:=@Array.getD_eq_getD_getElem?
def OB:=@not_or
def OC:=@Tryz.results87
def OD:=@Tryz.results31
def OE:=@List.take_take
def OF:=@DataW.trod_int
def OG:=@Bool.not_false
def OH:=@Bool.false_and
def OI:=@Bool.and_false
def Qz:=@World.cell?_setCell_same'
def QA:=@Array.getElem?_eq_getElem
def Q1:=@wp_region_any
def Q5:=@Tryz.ntmps194
def Q8:=@Tryz.ntmps186
def Q9:=@Tryz.ntmps185
def Ra:=@Tryz.ntmps180
def Rb:=@Tryz.ntmps158
def Rc:=@Tryz.ntmps157
def Re:=@DataW.trod_lt
def Rf:=@Bool.not_true
def Rh:=@Array.setIfInBounds_comm
def SN:=@wpOp_mono
def SO:=@Int.eq_ofNat_of_zero_le
def Tf:=@setRow_other
def Th:=@Tryz.ntmps94
def Ti:=@Tryz.ntmps86
def Tj:=@Tryz.ntmps81
def Tk:=@Tryz.ntmps42
def Tl:=@Tryz.ntmps22
def Tm:=@Tryz.func194
def Tn:=@Tryz.func186
def Tp:=@Tryz.func185
def Tq:=@Tryz.func180
def Tr:=@Tryz.func158
def Ts:=@Tryz.func157
def Tt:=@List.map_set
def Tu:=@Array.getElem?_eq_none
def U0:=@World.frozen?_setCell
def U1:=@Nat.div_lt_iff_lt_mul
def U2:=@List.set_getElem_self
def U3:=@List.length_filter_le
def U5:=@List.eq_nil_or_concat
def U6:=@List.concat_eq_append
def Ve:=@if_false
def Vf:=@Tryz.ntmps6
def Vg:=@Tryz.ntmps3
def Vh:=@Tryz.func94
def Vi:=@Tryz.func86
def Vj:=@Tryz.func81
def Vk:=@Tryz.func42
def Vm:=@Tryz.func22
def Vn:=@Nat.mul_le_mul_right
def Vo:=@Nat.mul_add
def Vp:=@List.map_id
def V1:=@World.grownBy_alloc
def V4:=@List.take_set_of_le
def V6:=@List.map_eq_flatMap
def V7:=@List.flatMap_append
def Wq:=@run_equalIn_string
def Wr:=@Tryz.underlying182
def Ws:=@Tryz.func6
def Wu:=@Nat.sub_le
def Wv:=@Nat.lt_of_le_of_lt
def Ww:=@List.mem_replicate
def Wx:=@List.getElem?_take
def Wy:=@Int.not_lt
def Wz:=@Int.natCast_nonneg
def WB:=@Int.lt_add_one_iff
def WC:=@Below.trod
def WQ:=@World.cells?_some
def WR:=@Tryz.underlying90
def WS:=@Tryz.underlying54
def WT:=@Tryz.underlying53
def WU:=@Tryz.underlying25
def WV:=@Nat.mul_left_comm
def WW:=@Array.getElem_mem
def WX:=@decide_eq_decide
def WY:=@and_false
def WZ:=@World.cell?_spot
def W5:=@Tryz.underlying4
def W6:=@List.flatMap_def
def W7:=@DataW.trod_array
def W9:=@Array.toList_map
def Xa:=@Array.toList_inj
end Go.Proofs.YtfpkdfeakanlpaaGreatDoor
namespace Go.Proofs.YtfpkdfeakanlpaaGreatDoor
open Go.Proofs.Tryz
section
variable{p:Prop}{w:World}
def cO(h:p):RowKit.Hid p:=h
def eX{α:Type}(a:α):∃x,x=a:=⟨a,rfl⟩
def GS{n:Nat}(h:0<n):∃m,n=m+1:=⟨n-1,(by omega)⟩
abbrev zI(x:Int):Value:=.int .i64 x
abbrev zA(b o:Nat):Addr:=⟨b,o,none⟩
abbrev zP(b:Nat):Value:=.pointer (some ⟨b,0,none⟩)
abbrev zS(b n c:Nat):Value:=.slice (some ⟨b,0,none⟩) n c
abbrev zV(a b:Int)(c:ByteArray):Array Value:=#[.int .i64 a,.int .i64 b,.string c]
abbrev zN:Value:=.slice none 0 0
abbrev zT:Value:=.string ⟨#[]⟩
abbrev zW(a b c:Int):Array Value:=#[.int .i64 a,.int .i64 b,.int .i64 c]
abbrev zB(w X:World):Prop:=RowKit.Below w.heap.size w X
abbrev zC:=Calls Tryz.prog
abbrev zR(X:World)(v:Value)(e:Ending)(w:World):Prop:=e=.returned v/\RowKit.Below X.heap.size X w
abbrev zE(X:World)(b j:Nat)(v:Value):Prop:=X.cell? ⟨b,j,none⟩=some v
def ba{o:Obj}:RowKit.Below w.heap.size w (w.alloc o):=(RowKit.Below.refl _ _).alloc (cE _) _
def iy{x y:World}(a:RowKit.Below w.heap.size w x)(b:RowKit.Below x.heap.size x y):RowKit.Below w.heap.size w y:=a.trans (b.mono a.size)
def cM(h:p:=by omega):p:=h
def dC(h:p:=by simp):p:=h
def gA(h:p:=by kernel_rfl):p:=h
def iM(h:p:=by decide):p:=h
def ti(h:p:=by simp only[dk];omega):p:=h
def l9(h:p:=by go_num):p:=h
def iY(h:p:=by simp;omega):p:=h
def xq(h:p:=by assumption):p:=h
def Jq(h:p:=by dsimp only;omega):p:=h
def OJ(h:p:=by simp[Value.oneCell']):p:=h
def QB(h:p:=by simp[World.setCell]):p:=h
def nb(h:true=false):p:=Bool.noConfusion h
end
namespace bts
open RowKit
variable{zs:List Int}{xs:List Value}{cJ cap g n:Nat}{ao:Option Addr}{E:TypeId}{w w':World}
def jh(zs:List Int):List Value:=zs.map (Value.int .u8)
def OA(zs:List Int):Prop:=∀i,0<=zs.getD i 0/\zs.getD i 0<=255
def Rd(w:World)(ao:Option Addr)(zs:List Int):Prop:=
 ∀i,i<zs.length->∃b off,ao=some ⟨b,off,none⟩/\w.cell? ⟨b,off+i,none⟩=some (.int .u8 (zs.getD i 0))
def Rd.at(h:Rd w ao zs)(I:0<zs.length):
  ∃b off,ao=some ⟨b,off,none⟩/\b<w.heap.size/\∀i,i<zs.length->w.cell? ⟨b,off+i,none⟩=some (.int .u8 (zs.getD i 0)):=by
 obtain⟨b,off,e,J⟩:=h 0 I;refine⟨b,off,e,dy _ _ J,λi K=>?_⟩;obtain⟨L,F,D,E⟩:=h i K;rw[e]at D;simp only[dB,fC,and_true]at D;obtain⟨rfl,rfl⟩:=D;exact E
def Rd.below(h:Rd w ao zs)(E:Below w.heap.size w w'):Rd w' ao zs:=by intro i F;obtain⟨b,off,e,D⟩:=h i F;exact⟨b,off,e,(E.cell (p:=(zA b (off+i))) (dy _ _ D)).trans D⟩
def Rd.own(h:w.ownsRow cJ E 1 (.slice (some ⟨g,0,none⟩) zs.length cap) zs.length (jh zs)):Rd w (some ⟨g,0,none⟩) zs:=by intro i D;refine⟨g,0,rfl,?_⟩;rw[dU,h.cellAt i cM,jh,ed,cG D];simp[cB,cG D]
def qN(zs:List Int):(jh zs).length=zs.length:=by simp[jh]
def wG(E:xs.length=zs.length)(h:∀j,j<zs.length->xs[j]?=some (.int .u8 (zs.getD j 0))):xs=jh zs:=by
 apply iE;intro j;by_cases D:j<zs.length
 .rw[h j D,jh,ed,cG D];simp[cB,cG D]
 .rw[dO cM,dO (by rw[qN];omega)]
def Q0(k:IntKind)(w:World)(a:Option Addr)(len cap:Nat)(zs:List Int):Prop:=
 (a=none/\len=0/\cap=0/\zs=[]) \/
 ∃x,a=some x/\len<=cap/\cap<=maxLen/\zs.length=cap/\(∀i,i<zs.length->w.cell? (x.add i)=some (.int k (zs.getD i 0)))/\∀n∈zs,(Lit.int k n).wf=true
def Nf{a:Option Addr}{len:Nat}(h:Q0 .u8 w a len cap zs):
  ∃J:List Int,J.length=len/\Rd w a J/\OA J:=by
 obtain⟨rfl,rfl,rfl,rfl⟩|⟨x,rfl,hl,hm,hz,D,K⟩:=h
 .exact⟨[],rfl,λi E=>absurd E dC,λi=>dC⟩
 .refine⟨zs.take len,by rw[dX];omega,?_,?_⟩
  .intro i E;rw[dX]at E;obtain⟨b,off,F⟩:=x;have L:F=none:=by simpa[Addr.add]using WZ (D 0 cM)
   subst L;refine⟨b,off,rfl,?_⟩;have M:=D i cM;have e:(zs.take len).getD i 0=zs.getD i 0:=by simp[cB,show i<len by omega]
   rw[e,<-M];unfold Addr.add;split
   .rename_i O;rw[O,eD]
   .rfl
  .intro i;by_cases E:i<(zs.take len).length
   .have I:(zs.take len).getD i 0∈zs:=by
     rw[cB,cG E];exact ox (fA E)
    have:=bounds_u8 (K _ I);omega
   .rw[cB,dO cM];simp
def CX:(Tryz.prog.info? 5).map (λi=>(i.zero,i.size,i.bytes))=some (some (.int .u8 0),1,1):=gA
def wM(ao:Option Addr)(cap:Nat)(zs:List Int)(w:World)(hr:Rd w ao zs)(hn:zs.length<=1048576):
  zC 26 #[.slice ao zs.length cap] w λe w'=>e=.returned (zS w.heap.size zs.length zs.length) /\
   w'.ownsRow w.heap.size 5 1 (zS w.heap.size zs.length zs.length) zs.length (jh zs)/\zB w w':=by
 obtain⟨i0,hi,aa,ab,ac⟩:=fQ CX;obtain⟨n,I⟩:=eX zs.length;have O:=cO I;rw[<-I]at hn|-;clear I;have ad:n<=maxLen:=by unfold maxLen;omega
 go_enter func26,ntmps26;go_wp2_with(at_make;refine lH _ rfl _ _ 29 rfl w.heap.size 5 i0 (.int .u8 0) 1 ie hi aa ab .i64 .i64 _ _ n rfl rfl rfl rfl (by rw[ac];omega) ad (cE _) ?_;intro w1 h D)
 have K:=(cN _ _).grown D (cE _) (by intro k hk;cases hk);go_loopw[4] (λi wr=>∃(k:Nat)(J:List Value),k<=n/\i=zI k/\wr.ownsRow w.heap.size 5 1 (zS w.heap.size n n) n J/\(∀j,j<k->J[j]?=some (.int .u8 (zs.getD j 0)))/\zB w wr) (λi _=>n-(intOf i).toNat)
 case atStart=>exact⟨0,_,dM _,rfl,h,λj hj=>absurd hj cM,K⟩
 case round=>
  clear h D K;obtain⟨k,J,hk,rfl,h,F,hb⟩:=hrel;by_cases ah:k<n
  .obtain⟨b,off,rfl,ae,E⟩:=hr.at (by have:=O.out;omega);have hc:=(hb.cell (p:=(zA b (off+k))) ae).trans (E k (by have:=O.out;omega));obtain⟨z,hz⟩:=eX (zs.getD k 0);rw[<-hz]at hc;have HZ:=cO hz;have ai:=h.frozenAt k;have af:=h.cellAt k cM;have L:J.length=n:=by have:=h.1;omega
   obtain⟨u,hu⟩:∃u,J[k]?=some u:=⟨_,cG cM⟩
   rw[hu]at af;have M:=h.stored k (.int .u8 z);have H:=cO M;have HX:=cO F;have HL:=cO L;clear hz M F h L hu E hr;go_wp2;go_roundw
   case rel=>
    refine⟨k+1,J.set k (.int .u8 z),cM,l9,H.1,?_,hb.setCell (cE _) _⟩;intro j hj;have hl:=HL.out;by_cases e:j=k
    .subst e;rw[dP cM,HZ.out]
    .rw[dm cM,HX j cM]
   case measure=>simp[intOf];omega
  .have ag:k=n:=cM;subst ag;have HO:=cO h;have HX:=cO F;clear h F;go_wp2;go_ret;have e:=wG (xs:=J) (zs:=zs) (by have:=HO.1;have:=O.out;omega) (by rw[<-O.out];exact HX);rw[e]at HO;exact⟨rfl,HO,hb⟩
def vP(ao I:Option Addr)(cap cap':Nat)(zs:List Int)(w:World)(J:Rd w ao zs)(hs:Rd w I zs)(hn:zs.length<=140737488355328):
  zC 32 #[.slice ao zs.length cap,.slice I zs.length cap'] w λe w'=>e=.returned (.bool true)/\∃m,w'=w.drewN m:=by
 obtain⟨n,D⟩:=eX zs.length;rw[<-D]at hn|-;go_enter func32,ntmps32;go_wp2;go_loopw[5] (λi wr=>∃(k m:Nat),k<=n/\i=zI k/\wr=w.drewN m) (λi _=>n-(intOf i).toNat)
 case atStart=>exact⟨0,0,dM _,rfl,rfl⟩
 case round=>
  obtain⟨k,m,hk,rfl,rfl⟩:=hrel;by_cases aa:k<n
  .obtain⟨b,off,rfl,ab,E⟩:=J.at (by have:=D;omega);obtain⟨b',K,rfl,L,h⟩:=hs.at (by have:=D;omega);have hc:=E k (by have:=D;omega);have F:=h k (by have:=D;omega);obtain⟨z,M⟩:=eX (zs.getD k 0);rw[<-M]at hc F;have O:(k:Int)<(n:Int):=cM;clear M E h J hs;go_wp2;go_quiet (fail);go_wp2;go_roundw
   case rel=>exact⟨k+1,m+nq,cM,l9,dC⟩
   case measure=>simp[intOf];omega
  .go_wp2;go_ret;exact⟨rfl,_,rfl⟩
def Hq{a b c:World}{row:Option Nat}(h:a.grownBy b row)(k:b.grownBy c row):a.grownBy c row:=
 ⟨k.os.trans h.os,k.tape.trans h.tape,k.output.trans h.output,cV h.size k.size,λi E D=>(k.block i (dj E h.size) D).trans (h.block i E D)⟩
def qH(k0:Int)(n:Nat):List Int:=(List.range n).map λj:Nat=>(k0+(j:Int)) % 256
def ke(k0:Int)(n:Nat):(qH k0 n).length=n:=by simp[qH]
def rN(k0:Int)(n j:Nat)(h:j<n):(qH k0 n).getD j 0=(k0+(j:Int)) % 256:=by simp[qH,cB,h]
def Ai(v:Value)(n cJ:Nat)(xs:List Value)(k0:Int)(h0:0<=k0)(h1:k0<=16777216)(w:World)(h:w.ownsRow cJ 5 1 v n xs)(hn:n<=140737488355328):
  zC 37 #[v,zI k0] w λe M=>e=.returned (zI (k0+(n:Int))) /\
   M.ownsRow cJ 5 1 v n (jh (qH k0 n))/\w.grownBy M v.ownBlock:=by
 obtain⟨rfl,rfl⟩|⟨g,cap,aa,rfl,ab,hh,ac,ad,F,I⟩:=h.2
 .go_enter Ld,FZ;go_wp2;refine tL 1 ?_;rw[pN];go_wp2;go_ret;exact⟨dC,⟨by simp[jh,qH],.inl ⟨rfl,rfl⟩⟩,jE _ _⟩
 .clear hh I F;go_enter Ld,FZ;go_wp2;go_loopw[1,5] (λq i wr=>∃(k:Nat)(xs:List Value),k<=n/\i=zI k/\q=zI (k0+(k:Int))/\wr.ownsRow cJ 5 1 (zS g n cap) n xs/\(∀j,j<k->xs[j]?=some (.int .u8 ((k0+(j:Int)) % 256)))/\w.grownBy wr (some g)) (λ_ i _=>n-(intOf i).toNat)
  case atStart=>exact⟨0,_,dM _,rfl,l9,h,λj D=>absurd D cM,jE _ _⟩
  case round=>
   clear h;obtain⟨k,xs,hk,rfl,rfl,h,E,O⟩:=hrel;by_cases ae:k<n
   .have af:=h.frozenAt k;have J:=h.cellAt k cM;have K:xs.length=n:=by have:=h.1;omega
    obtain⟨u,hu⟩:∃u,xs[k]?=some u:=⟨_,cG cM⟩
    rw[hu]at J;clear hu;go_wp2;go_roundw
    case rel=>
     refine⟨k+1,xs.set k (.int .u8 ((k0+(k:Int)) % 256)),cM,l9,l9,(h.stored k _).1,?_,Hq O (h.stored k _).2⟩;intro j D;have hl:=K;by_cases e:j=k
     .subst e;rw[dP cM]
     .rw[dm cM,E j cM]
    case measure=>simp[intOf];omega
   .have L:k=n:=cM;subst L;go_wp2;go_ret;have e:=wG (xs:=xs) (zs:=qH k0 k) (by have:=h.1;rw[ke];omega) (by
     intro j D;rw[ke]at D;rw[rN _ _ _ D];exact E j D)
    rw[e]at h;exact⟨rfl,h,O⟩
def UT(w w':World):Prop:=w'.heap=w.heap/\∀B,Below B w w'
def GG(w:World)(m:Nat):UT w (w.drewN m):=⟨rfl,λ_=>⟨rfl,rfl,rfl,cE _,λ_ _=>rfl⟩⟩
def km{e:TypeId}{size B:Nat}(h:w.ownsRow cJ e size (.slice (some ⟨g,0,none⟩) n cap) n xs)(J:Below B w w')(K:g<B):w'.ownsRow cJ e size (.slice (some ⟨g,0,none⟩) n cap) n xs:=by
 obtain⟨L,M⟩:=h;refine⟨L,?_⟩;obtain⟨h,_⟩|⟨I,D,E,h,F,O,r⟩:=M
 .simp at h
 .have e:I=g:=by simp at h;exact h.1.symm
  subst e;exact .inr ⟨I,D,E,h,F,(J.block _ K).trans O,r⟩
def Rd.T9(h:w.ownsRow cJ E 1 (.slice (some ⟨g,0,none⟩) n cap) n (jh zs))(e:zs.length=n):Rd w (some ⟨g,0,none⟩) zs:=by subst e;exact Rd.own h
def za(ao D:Option Addr)(n cap cap':Nat)(zs:List Int)(w:World)(F:zs.length=n)(I:Rd w ao zs)(hs:Rd w D zs)(J:n<=140737488355328):
  zC 32 #[.slice ao n cap,.slice D n cap'] w λe E=>e=.returned (.bool true)/\UT w E:=by
 subst F;refine(vP ao D cap cap' zs w I hs J).mono ?_;rintro e E ⟨h,m,rfl⟩;exact⟨h,GG w m⟩
end bts
namespace pg
open RowKit bts Go.ChangeShapes Go.Deep
variable{held:Bool}{cs:List Value}{D b o:Nat}{ao:Option Addr}{H:Type}{T:TypeId}{v:Value}{W w w':World}
structure In where
 op:Int
 a:Int
 b:Int
structure Cp where
 up:Bool
 index:Int
structure Cn where
 pB:Bool
 n:Int
 oy:List Int
structure Pr where
 params:Int
 da:Int
 fP:List Cp
 dw:List In
structure Pg where
 dv:List Cn
 cU:List Pr
def jI:In:=⟨0,0,0⟩
def lY:Cp:=⟨false,0⟩
def mU:Cn:=⟨false,0,[]⟩
def gu:Pr:=⟨0,0,[],[]⟩
def AB(w:World)(v:Value)(zs:List Int):Prop:=∃h cap,v=.slice h zs.length cap/\zs.length<=9223372036854775807/\Rd w h zs/\OA zs
def Lm(w:World)(ao:Option Addr)(l:List In):Prop:=
 ∀i,i<l.length->∃b off,ao=some ⟨b,off,none⟩/\w.cell? ⟨b,off+i*3,none⟩=some (.int .i64 (l.getD i jI).op)/\w.cell? ⟨b,off+i*3+1,none⟩=some (.int .i64 (l.getD i jI).a)/\w.cell? ⟨b,off+i*3+2,none⟩=some (.int .i64 (l.getD i jI).b)
def Ox(w:World)(ao:Option Addr)(l:List Cp):Prop:=
 ∀i,i<l.length->∃b off,ao=some ⟨b,off,none⟩/\w.cell? ⟨b,off+i*2,none⟩=some (.bool (l.getD i lY).up)/\w.cell? ⟨b,off+i*2+1,none⟩=some (.int .i64 (l.getD i lY).index)
def qO(w:World)(v:Value)(l:List In):Prop:=∃h cap,v=.slice h l.length cap/\l.length<=9223372036854775807/\Lm w h l
def qk(w:World)(v:Value)(l:List Cp):Prop:=∃h cap,v=.slice h l.length cap/\l.length<=9223372036854775807/\Ox w h l
def Td(w:World)(ao:Option Addr)(l:List Cn):Prop:=
 ∀i,i<l.length->∃b off ut,ao=some ⟨b,off,none⟩/\w.cell? ⟨b,off+i*3,none⟩=some (.bool (l.getD i mU).pB)/\w.cell? ⟨b,off+i*3+1,none⟩=some (.int .i64 (l.getD i mU).n)/\w.cell? ⟨b,off+i*3+2,none⟩=some ut/\AB w ut (l.getD i mU).oy
def SF(w:World)(ao:Option Addr)(l:List Pr):Prop:=
 ∀i,i<l.length->∃b off uc ud,ao=some ⟨b,off,none⟩/\w.cell? ⟨b,off+i*4,none⟩=some (.int .i64 (l.getD i gu).params)/\w.cell? ⟨b,off+i*4+1,none⟩=some (.int .i64 (l.getD i gu).da) /\
  w.cell? ⟨b,off+i*4+2,none⟩=some uc/\w.cell? ⟨b,off+i*4+3,none⟩=some ud/\qk w uc (l.getD i gu).fP/\qO w ud (l.getD i gu).dw
def lX(w:World)(v:Value)(l:List Cn):Prop:=∃h cap,v=.slice h l.length cap/\l.length<=9223372036854775807/\Td w h l
def kZ(w:World)(v:Value)(l:List Pr):Prop:=∃h cap,v=.slice h l.length cap/\l.length<=9223372036854775807/\SF w h l
def AB.below{zs:List Int}(h:AB w v zs)(D:Below w.heap.size w w'):AB w' v zs:=by obtain⟨E,cap,e,F,I,J⟩:=h;exact⟨E,cap,e,F,I.below D,J⟩
def di(h:w.cell? ⟨b,o,none⟩=some v)(D:Below w.heap.size w w'):w'.cell? ⟨b,o,none⟩=some v:=
 (D.cell (p:=(zA b o)) (dy _ _ h)).trans h
def Lm.below{l:List In}(h:Lm w ao l)(D:Below w.heap.size w w'):Lm w' ao l:=by intro i E;obtain⟨b,off,e,F,I,J⟩:=h i E;exact⟨b,off,e,di F D,di I D,di J D⟩
def Ox.below{l:List Cp}(h:Ox w ao l)(D:Below w.heap.size w w'):Ox w' ao l:=by intro i E;obtain⟨b,off,e,F,I⟩:=h i E;exact⟨b,off,e,di F D,di I D⟩
def qO.below{l:List In}(h:qO w v l)(D:Below w.heap.size w w'):qO w' v l:=by obtain⟨E,cap,e,F,h⟩:=h;exact⟨E,cap,e,F,h.below D⟩
def qk.below{l:List Cp}(h:qk w v l)(D:Below w.heap.size w w'):qk w' v l:=by obtain⟨E,cap,e,F,h⟩:=h;exact⟨E,cap,e,F,h.below D⟩
def Td.below{l:List Cn}(h:Td w ao l)(D:Below w.heap.size w w'):Td w' ao l:=by intro i E;obtain⟨b,off,F,e,I,J,K,L⟩:=h i E;exact⟨b,off,F,e,di I D,di J D,di K D,L.below D⟩
def SF.below{l:List Pr}(h:SF w ao l)(D:Below w.heap.size w w'):SF w' ao l:=by intro i E;obtain⟨b,off,F,I,e,J,K,L,M,O,hd⟩:=h i E;exact⟨b,off,F,I,e,di J D,di K D,di L D,di M D,O.below D,hd.below D⟩
def lX.below{l:List Cn}(h:lX w v l)(D:Below w.heap.size w w'):lX w' v l:=by obtain⟨E,cap,e,F,h⟩:=h;exact⟨E,cap,e,F,h.below D⟩
def kZ.below{l:List Pr}(h:kZ w v l)(D:Below w.heap.size w w'):kZ w' v l:=by obtain⟨E,cap,e,F,h⟩:=h;exact⟨E,cap,e,F,h.below D⟩
def Ji:Tryz.prog.cellsOf 5=1:=gA
def zl:Tryz.prog.cellsOf 29=1:=gA
def nI:Tryz.prog.cellsOf 3=1:=gA
def wD:Tryz.prog.cellsOf 4=1:=gA
def Fh:Tryz.prog.cellsOf 215=3:=gA
def Fm:Tryz.prog.cellsOf 213=2:=gA
def uG:Tryz.prog.cellsOf 90=3:=gA
def zk:Tryz.prog.cellsOf 95=4:=gA
def Dm:Tryz.prog.cellsOf 25=2:=gA
def KI:Tryz.prog.cellsOf 93=1:=gA
def KJ:Tryz.prog.cellsOf 92=1:=gA
def Fk:Tryz.prog.cellsOf 22=1:=gA
def Fg:Tryz.prog.cellsOf 23=1:=gA
def iK{off:Nat}{i:Nat}:(⟨b,off,none⟩:Addr).add i=⟨b,off+i,none⟩:=by
 unfold Addr.add;split
 .rename_i h;rw[h,eD]
 .rfl
section
variable{enc:TypeId×Value→H}
def uv{F:Nat}{x:DataW H×List MemPlace}(h:DataW.trod enc Tryz.prog W 0 (λ_=>true) held F 29 [v]=some x):∃I,AB W v I:=by
 obtain⟨D,_⟩|⟨a,l,c,I,D,_,L,K,M,_,E,J⟩:=open_ints ie jJ Ji h
 .simp only[iA,and_true]at D;subst D;exact⟨[],none,0,rfl,dC,λi O=>absurd O dC,λi=>dC⟩
 .simp only[iA,and_true]at D;subst D;have hR:Q0 .u8 W (some a) l c I:=.inr ⟨_,rfl,L,K,by simpa using M,E,J⟩;obtain⟨ys,hy,hr,hb⟩:=Nf hR;exact⟨ys,some a,c,by rw[hy],by unfold maxLen at K;omega,hr,hb⟩
def ux{x:DataW H×List MemPlace}(h:DataW.trod enc Tryz.prog W 0 (λ_=>true) held D 4 [v]=some x):∃b,v=.bool b:=by obtain⟨b,e,_⟩:=DataW.trod_bool W5 h;simp only[iA,and_true]at e;exact⟨b,e⟩
def oF{x:DataW H×List MemPlace}(h:DataW.trod enc Tryz.prog W 0 (λ_=>true) held D 3 [v]=some x):∃z,v=.int .i64 z:=by obtain⟨z,e,_,_⟩:=OF mJ h;simp only[iA,and_true]at e;exact⟨z,e⟩
def field{m:Nat}{y:DataW H×List MemPlace}(h:DataW.trod enc Tryz.prog W 0 (λ_=>true) held m T ((cs.drop o).take (Tryz.prog.cellsOf T))=some y)(D:Tryz.prog.cellsOf T=1)(e:(cs.drop o).take 1=[v]):DataW.trod enc Tryz.prog W 0 (λ_=>true) held m T [v]=some y:=by rw[D,e]at h;exact h
def MN{x:DataW H×List MemPlace}(h:DataW.trod enc Tryz.prog W 0 (λ_=>true) held D 215 cs=some x):∃d:In,cs=[.int .i64 d.op,.int .i64 d.a,.int .i64 d.b]:=by
 obtain⟨J,m,_,_,I,E,F⟩:=mq underlying215 h;rw[Fh]at I
 match cs,I with
 |[K,L,M],_=>
  match J,E with
  |[O,y1,y2],_=>
   obtain⟨k,rfl⟩:=oF (field (o:=0) (F 0 _ rfl) nI rfl);obtain⟨n,rfl⟩:=oF (field (o:=1) (F 1 _ rfl) nI rfl);obtain⟨c,rfl⟩:=oF (field (o:=2) (F 2 _ rfl) nI rfl);exact⟨⟨k,n,c⟩,rfl⟩
def MP{x:DataW H×List MemPlace}(h:DataW.trod enc Tryz.prog W 0 (λ_=>true) held D 213 cs=some x):∃d:Cp,cs=[.bool d.up,.int .i64 d.index]:=by
 obtain⟨J,m,_,_,F,E,I⟩:=mq underlying213 h;rw[Fm]at F
 match cs,F with
 |[K,L],_=>
  match J,E with
  |[M,O],_=>
   obtain⟨k,rfl⟩:=ux (field (o:=0) (I 0 _ rfl) wD rfl);obtain⟨n,rfl⟩:=oF (field (o:=1) (I 1 _ rfl) nI rfl);exact⟨⟨k,n⟩,rfl⟩
def RU{x:DataW H×List MemPlace}(h:DataW.trod enc Tryz.prog W 0 (λ_=>true) held D 90 cs=some x):∃(d:Cn)(I:Value),cs=[.bool d.pB,.int .i64 d.n,I]/\AB W I d.oy:=by
 obtain⟨K,m,_,_,J,E,F⟩:=mq WR h;rw[uG]at J
 match cs,J with
 |[O,v1,L],_=>
  match K,E with
  |[y0,y1,y2],_=>
   obtain⟨k,rfl⟩:=ux (field (o:=0) (F 0 _ rfl) wD rfl);obtain⟨n,rfl⟩:=oF (field (o:=1) (F 1 _ rfl) nI rfl);obtain⟨t,M⟩:=uv (field (o:=2) (F 2 _ rfl) zl rfl);exact⟨⟨k,n,t⟩,L,rfl,M⟩
def sN{α:Type}[Inhabited α]{E:TypeId}{c:Nat}(p:α->List Value->Prop){I:Nat}{x:DataW H×List MemPlace}(hu:Tryz.prog.underlying T=some (.slice E))(hc:Tryz.prog.cellsOf E=c)(ac:0<c)(_:∀d cs,p d cs->cs.length=c)(elem:∀{I:Nat}{cs:List Value}{x:DataW H×List MemPlace},DataW.trod enc Tryz.prog W 0 (λ_=>true) held I E cs=some x->∃d,p d cs)(h:DataW.trod enc Tryz.prog W 0 (λ_=>true) held I T [v]=some x):
  ∃(l:List α)(ao:Option Addr)(cap:Nat),v=.slice ao l.length cap/\l.length<=9223372036854775807/\∀i,i<l.length->∃b off cs,ao=some ⟨b,off,none⟩/\p (l.getD i default) cs/\∀j,j<c->W.cell? ⟨b,off+i*c+j,none⟩=cs[j]?:=by
 obtain⟨J,_⟩|⟨a,len,cap,m,n,D,Pl,J,_,hl,hm,ab,_,hx⟩:=open_slice hu h
 .simp only[iA,and_true]at J;subst J;exact⟨[],none,0,rfl,dC,λi K=>absurd K dC⟩
 .simp only[iA,and_true]at J;subst J;simp only[wY]at ab;rw[hc]at hx;by_cases h0:len=0
  .subst h0;exact⟨[],some a,cap,rfl,dC,λi K=>absurd K dC⟩
  obtain⟨b,off,M⟩:=a;have hs:M=none:=by obtain⟨O,h1,_⟩:=hx 0 cM;obtain⟨_,aa,L⟩:=WQ h1;have:=L 0 cM;rw[cG cM]at this;simpa[Addr.add]using WZ this
  subst hs;obtain⟨F,hF⟩:=choose_lt (α:=α) (p:=λi d=>∃cs,p d cs/\∀j,j<c->W.cell? (zA b (off+i*c+j))=cs[j]?) (n:=len) (λi K=>by obtain⟨O,h1,h2⟩:=hx i cM;obtain⟨_,aa,L⟩:=WQ h1;obtain⟨d,hd⟩:=elem h2;refine⟨d,O,hd,λj hj=>?_⟩;have:=L j cM;simpa only[iK]using this);refine⟨(List.range len).map F,some (zA b off),cap,dC,by unfold maxLen at hm;simp;omega,λi K=>?_⟩;simp only[dY,oe]at K;have e:((List.range len).map F).getD i default=F i:=by simp[cB,K]
  rw[e];obtain⟨cs,h1,h2⟩:=hF i K;exact⟨b,off,cs,rfl,h1,h2⟩
def JM{x:DataW H×List MemPlace}(h:DataW.trod enc Tryz.prog W 0 (λ_=>true) held D 93 [v]=some x):∃l,qO W v l:=by
 have K:Inhabited In:=⟨jI⟩
 obtain⟨l,L,cap,e,M,O⟩:=sN (c:=3) (λ(d:In) E=>E=[zI d.op,zI d.a,zI d.b]) underlying93 Fh cM (λd E e=>by rw[e];rfl) MN h;refine⟨l,L,cap,e,M,λi I=>?_⟩;obtain⟨b,off,E,e,J,F⟩:=O i I;have hg:l.getD i default=l.getD i jI:=by simp[cB,cG I]
 rw[hg]at J;subst J;exact⟨b,off,e,F 0 cM,F 1 cM,F 2 cM⟩
def JP{x:DataW H×List MemPlace}(h:DataW.trod enc Tryz.prog W 0 (λ_=>true) held D 92 [v]=some x):∃l,qk W v l:=by
 have K:Inhabited Cp:=⟨lY⟩
 obtain⟨l,L,cap,e,M,O⟩:=sN (c:=2) (λ(d:Cp) E=>E=[.bool d.up,zI d.index]) underlying92 Fm cM (λd E e=>by rw[e];rfl) MP h;refine⟨l,L,cap,e,M,λi F=>?_⟩;obtain⟨b,off,E,e,I,J⟩:=O i F;have hg:l.getD i default=l.getD i lY:=by simp[cB,cG F]
 rw[hg]at I;subst I;exact⟨b,off,e,J 0 cM,J 1 cM⟩
def GX{x:DataW H×List MemPlace}(h:DataW.trod enc Tryz.prog W 0 (λ_=>true) held D 95 cs=some x):∃(d:Pr)(uc ud:Value),cs=[.int .i64 d.params,.int .i64 d.da,uc,ud]/\qk W uc d.fP/\qO W ud d.dw:=by
 obtain⟨J,m,_,_,I,E,F⟩:=mq underlying95 h;rw[zk]at I
 match cs,I with
 |[v0,v1,K,L],_=>
  match J,E with
  |[y0,y1,y2,y3],_=>
   obtain⟨k,rfl⟩:=oF (field (o:=0) (F 0 _ rfl) nI rfl);obtain⟨n,rfl⟩:=oF (field (o:=1) (F 1 _ rfl) nI rfl);obtain⟨c,M⟩:=JP (field (o:=2) (F 2 _ rfl) KJ rfl);obtain⟨d,O⟩:=JM (field (o:=3) (F 3 _ rfl) KI rfl);exact⟨⟨k,n,c,d⟩,K,L,rfl,M,O⟩
def Es{x:DataW H×List MemPlace}(h:DataW.trod enc Tryz.prog W 0 (λ_=>true) held D 23 [v]=some x):∃l,kZ W v l:=by
 have aa:Inhabited Pr:=⟨gu⟩
 obtain⟨l,ao,cap,e,hm,hx⟩:=sN (c:=4) (λ(d:Pr) J=>∃E F:Value,J=[zI d.params,zI d.da,E,F]/\qk W E d.fP/\qO W F d.dw) underlying23 zk cM (λd J ⟨_,_,e,_⟩=>by rw[e];rfl) GX h;refine⟨l,ao,cap,e,hm,λi K=>?_⟩;obtain⟨b,off,J,e,⟨E,F,L,M,O⟩,I⟩:=hx i K;have hg:l.getD i default=l.getD i gu:=by simp[cB,cG K]
 rw[hg]at L M O;subst L;exact⟨b,off,E,F,e,I 0 cM,I 1 cM,I 2 cM,I 3 cM,M,O⟩
end
end pg
namespace chk
open pg
variable{x:In}{n v:Int}{D H I hs l:List Int}{t':List Nat}{N a i:Nat}{F:Nat->Int->Option (List (Nat×Int))}{p:Pg}{f:Pr}
def jd(hs:List Int)(t:List Nat)(a:Nat)(n:Int):Option (List Int×List Nat):=
 if a<hs.length then(if hs.getD a (-1)<0 then some (hs.set a n,t++[a])else if hs.getD a (-1)=n then some (hs,t)else none)else none
def fO:List Int->List Nat->List (Nat×Int)->Option (List Int×List Nat)
 |hs,t,[]=>some (hs,t)
 |hs,t,e::D=>match jd hs t e.1 e.2 with
  |none=>none
  |some (h,E)=>fO h E D
def zr(D:Nat->Int->Option (List (Nat×Int)))(N:Nat)(H:List Int):Prop:=
 H.length=N/\H.getD 0 (-1)=0/\∀a,a<N->0<=H.getD a (-1)->∃h,D a (H.getD a (-1))=some h/\∀e∈h,e.1<N/\H.getD e.1 (-1)=e.2
def oM(h:Nat->Int->Option (List (Nat×Int)))(N:Nat):Prop:=∃H,zr h N H
structure zt(su:Nat→Int→Option (List (Nat×Int)))(N:Nat)(hs:List Int)(t:List Nat):Prop where
 len:hs.length=N
 zero:hs.getD 0 (-1)=0
 todo:∀x∈t,x<N∧0≤hs.getD x (-1)
 TQ:∀a,a<N→0≤hs.getD a (-1)→a∈t∨∃es,su a (hs.getD a (-1))=some es∧∀e∈es,e.1<N∧hs.getD e.1 (-1)=e.2
 all:∀H,zr su N H→∀a,a<N→0≤hs.getD a (-1)→H.getD a (-1)=hs.getD a (-1)
 db:∀a,-1≤hs.getD a (-1)∧hs.getD a (-1)≤300
def ju(h:i<l.length):(l.set i v).getD i (-1)=v:=by simp[cB,h]
def getD_set_ne{j:Nat}(h:i≠j):(l.set i v).getD j (-1)=l.getD j (-1):=by simp[cB,dm h]
structure Oy(N:Nat)(hs:List Int)(t:List Nat)(es:List (Nat×Int))(hs':List Int)(t':List Nat):Prop where
 len:hs'.length=hs.length
 G8:∀i,0≤hs.getD i (-1)→hs'.getD i (-1)=hs.getD i (-1)
 sub:∀x∈t,x∈t'
 new:∀i,0≤hs'.getD i (-1)→0≤hs.getD i (-1)∨(i∈t'∧∃e∈es,e.1=i∧e.2=hs'.getD i (-1))
 Ds:∀x∈t',x∈t∨(x<N∧0≤hs'.getD x (-1))
 VF:∀e∈es,e.1<N∧hs'.getD e.1 (-1)=e.2
 db:(∀a,-1≤hs.getD a (-1)∧hs.getD a (-1)≤300)→∀a,-1≤hs'.getD a (-1)∧hs'.getD a (-1)≤300
def JD{t L:List Nat}(O:hs.length=N)(h0:0<=n)(h1:n<=300)(h:jd hs t a n=some (I,L)):Oy N hs t [(a,n)] I L:=by
 unfold jd at h;by_cases E:a<hs.length
 .rw[cR E]at h;by_cases M:hs.getD a (-1)<0
  .rw[cR M]at h;simp only[dB,fS]at h;obtain⟨rfl,rfl⟩:=h;refine⟨dC,λi J=>?_,λx D=>by simp[D],λi J=>?_,λx D=>?_,λe F=>?_,λK i=>?_⟩
   .rw[getD_set_ne];intro e;subst e;omega
   .by_cases e:a=i
    .subst e;right;rw[ju E];simp
    .rw[getD_set_ne e]at J;exact .inl J
   .obtain h|h:=gI.1 D
    .exact .inl h
    .simp only[iJ]at h;subst h;right;rw[ju E];omega
   .simp only[iJ]at F;subst F;exact⟨cM,ju E⟩
   .by_cases e:a=i
    .subst e;rw[ju E];omega
    .rw[getD_set_ne e];exact K i
  .rw[cK M]at h;by_cases F:hs.getD a (-1)=n
   .rw[cR F]at h;simp only[dB,fS]at h;obtain⟨rfl,rfl⟩:=h;refine⟨rfl,λi _=>rfl,λx D=>D,λi J=>.inl J,λx D=>.inl D,λe h=>?_,λK=>K⟩;simp only[iJ]at h;subst h;exact⟨cM,F⟩
   .rw[cK F]at h;cases h
 .rw[cK E]at h;cases h
def Oy.trans{F:List Int}{t J:List Nat}{O fs:List (Nat×Int)}(h:Oy N hs t O I t')(k:Oy N I t' fs F J)(h0:∀e∈O,0<=e.2):Oy N hs t (O++fs) F J:=by
 refine⟨k.len.trans h.len,λi K=>?_,λx hx=>k.sub _ (h.sub _ hx),λi K=>?_,λx hx=>?_,λe L=>?_,λht=>k.db (h.db ht)⟩
 .rw[k.G8 i (by rw[h.G8 i K];exact K),h.G8 i K]
 .obtain D|⟨D,e,L,e1,e2⟩:=k.new i K
  .obtain E|⟨E,e,L,e1,e2⟩:=h.new i D
   .exact .inl E
   .exact .inr ⟨k.sub _ E,e,by simp[L],e1,by rw[e2,k.G8 i D]⟩
  .exact .inr ⟨D,e,by simp[L],e1,e2⟩
 .obtain D|D:=k.Ds x hx
  .obtain E|⟨E,M⟩:=h.Ds x D
   .exact .inl E
   .exact .inr ⟨E,by rw[k.G8 x M];exact M⟩
  .exact .inr D
 .obtain D|D:=gI.1 L
  .obtain⟨E,M⟩:=h.VF e D;refine⟨E,?_⟩;rw[k.G8 e.1 (M▸h0 e D),M]
  .exact k.VF e D
def Oy.refl(N:Nat)(hs:List Int)(t:List Nat):Oy N hs t [] hs t:=
 ⟨rfl,λ_ _=>rfl,λ_ h=>h,λ_ h=>.inl h,λ_ h=>.inl h,λe h=>(by simp at h),λh=>h⟩
def Ng{su:Nat->Int->Option (List (Nat×Int))}{O:List Int}{t:List Nat}{K:List (Nat×Int)}(JG:∀a h K,0<=h->h<=300->su a h=some K->∀e∈K,0<=e.2/\e.2<=300)(I:zt su N hs (t++[a]))(aa:su a (hs.getD a (-1))=some K)(D:Oy N hs t K O t'):zt su N O t':=by
 have F:=I.todo a dC;refine⟨D.len.trans I.len,?_,λx h=>?_,λx J h=>?_,λH hH x J h=>?_,D.db I.db⟩
 .rw[D.G8 0 (by rw[I.zero];omega),I.zero]
 .obtain E|E:=D.Ds x h
  .have:=I.todo x (by simp[E]);exact⟨this.1,by rw[D.G8 x this.2];exact this.2⟩
  .exact E
 .obtain E|⟨E,_⟩:=D.new x h
  .obtain h2|⟨fs,h2,h3⟩:=I.TQ x J E
   .obtain L|L:=gI.1 h2
    .exact .inl (D.sub _ L)
    .simp only[iJ]at L;subst L;refine .inr ⟨K,?_,D.VF⟩;rw[D.G8 x E];exact aa
   .refine .inr ⟨fs,by rw[D.G8 x E];exact h2,λe he=>?_⟩;obtain⟨L,M⟩:=h3 e he;refine⟨L,?_⟩;by_cases hn:0<=hs.getD e.1 (-1)
    .rw[D.G8 _ hn,M]
    .exact absurd (M▸(JG _ _ _ E (I.db x).2 h2 e he).1) hn
  .exact .inl E
 .obtain E|⟨_,e,he,e1,e2⟩:=D.new x h
  .rw[D.G8 x E];exact I.all H hH x J E
  .obtain⟨_,_,h3⟩:=hH;have e4:=I.all H ⟨xq,xq,h3⟩ a F.1 F.2;obtain⟨fs,M,h6⟩:=h3 a F.1 (e4▸F.2);rw[e4,aa]at M;simp only[dB]at M;subst M;rw[<-e1,(h6 e he).2,e2,e1]
def left(hs:List Int)(t:List Nat):Nat:=2*(hs.filter (· < 0)).length+t.length
def yV:∀(hs:List Int)(a:Nat)(n:Int),a<hs.length->hs.getD a (-1)<0->0<=n->(hs.set a n |>.filter (· < 0)).length+1=(hs.filter (· < 0)).length
 |[],a,n,h,_,_=>by simp at h
 |x::F,0,n,_,D,I=>by
  have E:x<0:=by simpa using D
  simp[List.set,E,show¬n<0 by omega]
 |x::F,a+1,n,h,D,I=>by
  have:=yV F a n (by simpa using h) (by simpa using D) I;simp only[List.set,List.filter_cons];split
  .simp only[dt];omega
  .exact this
def GM{t I:List Nat}(K:0<=n)(h:jd hs t a n=some (D,I)):left D I<=left hs t:=by
 unfold jd at h;by_cases E:a<hs.length
 .rw[cR E]at h;by_cases F:hs.getD a (-1)<0
  .rw[cR F]at h;simp only[dB,fS]at h;obtain⟨rfl,rfl⟩:=h;have:=yV hs a n E F K;unfold left;simp only[dq,j9];omega
  .rw[cK F]at h;by_cases J:hs.getD a (-1)=n
   .rw[cR J]at h;simp only[dB,fS]at h;obtain⟨rfl,rfl⟩:=h;exact cE _
   .rw[cK J]at h;cases h
 .rw[cK E]at h;cases h
def GL{t E:List Nat}(h:jd hs t a n=some (D,E)):D.length=hs.length:=by
 unfold jd at h;split at h
 .split at h
  .simp only[dB,fS]at h;obtain⟨rfl,rfl⟩:=h;simp
  .split at h
   .simp only[dB,fS]at h;obtain⟨rfl,rfl⟩:=h;rfl
   .cases h
 .cases h
def Ey(hs:List Int)(t:List Nat)(a:Nat):left hs (t++[a])=left hs t+1:=by unfold left;simp only[dq,j9];omega
def Jl:∀(E:List (Nat×Int)) {hs D:List Int} {t F:List Nat},hs.length=N->(∀e∈E,0<=e.2/\e.2<=300)->fO hs t E=some (D,F)->Oy N hs t E D F/\left D F<=left hs t
 |[],hs,D,t,F,_,_,h=>by simp only[fO,dB,fS]at h;obtain⟨rfl,rfl⟩:=h;exact⟨Oy.refl _ _ _,cE _⟩
 |e::E,hs,D,t,F,J,K,h=>by
  simp only[fO]at h;split at h
  .cases h
  .rename_i h1 t1 L;have b:=K e dC;have M:=JD J b.1 b.2 L;have l1:=GM b.1 L;have O:=Jl E (M.len.trans J) (λe I=>K e (by simp[I])) h;exact⟨M.trans O.1 (λe I=>by simp only[iJ]at I;subst I;exact b.1),cV O.2 l1⟩
def EF{J:Nat->Int->Option (List (Nat×Int))}{t K:List Nat}{E:List (Nat×Int)}(JG:∀a h E,0<=h->h<=300->J a h=some E->∀e∈E,0<=e.2/\e.2<=300)(I:zt J N hs (t++[a]))(F:J a (hs.getD a (-1))=some E)(M:fO hs t E=some (D,K)):zt J N D K/\left D K<left hs (t++[a]):=by
 have L:=I.todo a dC;have O:=Jl E I.len (JG a _ E L.2 (I.db a).2 F) M;refine⟨Ng JG I F O.1,?_⟩;rw[Ey];omega
def GN{t:List Nat}(M:hs.length=N)(J:a<N)(F:H.getD a (-1)=n)(D:∀x,x<N->0<=hs.getD x (-1)->H.getD x (-1)=hs.getD x (-1)):∃E K,jd hs t a n=some (E,K)/\∀x,x<N->0<=E.getD x (-1)->H.getD x (-1)=E.getD x (-1):=by
 unfold jd;rw[cR cM];by_cases I:hs.getD a (-1)<0
 .rw[cR I];refine⟨_,_,rfl,λx L h=>?_⟩;by_cases e:a=x
  .subst e;rw[ju cM,F]
  .rw[getD_set_ne e]at h|-;exact D x L h
 .rw[cK I,cR (by rw[<-D a J cM,F])];exact⟨_,_,rfl,D⟩
def Fv:∀(D:List (Nat×Int)) {hs:List Int} {t:List Nat},hs.length=N->(∀e∈D,e.1<N/\H.getD e.1 (-1)=e.2) ->
  (∀x,x<N->0<=hs.getD x (-1)->H.getD x (-1)=hs.getD x (-1))->fO hs t D≠none
 |[],hs,t,_,_,_=>by simp[fO]
 |e::D,hs,t,I,E,K=>by obtain⟨L,M,J,F⟩:=GN (t:=t) I (E e dC).1 (E e dC).2 K;simp only[fO,J];exact Fv D (GL J |>.trans I) (λe h=>E e (by simp[h])) F
def xJ{t:List Nat}(I:zt F N hs (t++[a]))(h:∀E,F a (hs.getD a (-1))=some E->fO hs t E=none):¬oM F N:=by
 rintro⟨H,J⟩;have D:=I.todo a dC;have e:=I.all H J a D.1 D.2;obtain⟨E,K,L⟩:=J.2.2 a D.1 (e▸D.2);rw[e]at K;exact Fv E I.len L (λx M O=>I.all H J x M O) (h E K)
def I6{D:Nat->Int->Option (List (Nat×Int))}(I:zt D N hs []):oM D N:=
 ⟨hs,I.len,I.zero,λa E h=>(I.TQ a E h).resolve_left dC⟩
def A8(D:0<N):zt F N ((List.replicate N (-1)).set 0 0) [0]:=by
 have g:∀i,0<=((List.replicate N (-1:Int)).set 0 0).getD i (-1)->i=0:=by
  intro i h;by_cases e:0=i
  .exact e.symm
  .rw[getD_set_ne e]at h;simp only[cB,pO]at h;split at h<;>simp at h
 refine⟨dC,ju (by simpa using D),λx E=>?_,λa _ h=>?_,λH I a _ h=>?_,λa=>?_⟩
 .simp only[iJ]at E;subst E;rw[ju (by simpa using D)];omega
 .rw[g a h];simp
 .rw[g a h,ju (by simpa using D)];exact I.2.1
 .by_cases e:0=a
  .subst e;rw[ju (by simpa using D)];omega
  .rw[getD_set_ne e];simp only[cB,pO];split<;>simp
def sg(op:Nat):Nat:=[1,0,0,0,2,3,3,3,5,5,6,0,0,0,0,7,0,0,9,9,9,9,8,8,8,0,4,4].getD op 0
def uS(op:Nat):Nat:=[0,0,0,0,0,0,0,0,0,0,0,0,0,0,0,0,0,0,0,0,0,0,8,0,0,0,9,9].getD op 0
def tk(op:Nat):Int:=[0,0,0,0,0,0,1,1,0,1,0,0,3,2,3,2,1,1,0,1,1,1,1,1,0,1,0,0].getD op 0
def lv(op:Nat):Int:=[1,1,1,1,1,1,0,0,1,0,1,1,1,1,0,1,1,1,0,0,0,0,0,0,0,0,0,0].getD op 0
def db(D np:Nat)(h:Int)(E F:Nat)(u:Nat):Int:=
 if u=0 then 1 else if u=1 then(D:Int)else if u=2 then 10 else if u=3 then h else if u=4 then h-2 else if u=5 then(E:Int)else if u=6 then(np:Int)else if u=7 then 12 else if u=8 then 51 else(F:Int)
def pA(u:Nat):Int:=if u=6 then 1 else 0
def kn(D np:Nat)(h:Int)(E F:Nat)(u:Nat)(v:Int):Bool:=decide (pA u<=v)&&decide (v<db D np h E F u)
def mY(p:Pg)(f:Pr)(u:Nat)(v:Int):Bool:=kn p.dv.length p.cU.length f.da f.fP.length f.dw.length u v
def me(f:Pr)(c:Cp):Bool:=if c.up then decide (c.index<(f.fP.length:Int))else decide (c.index<f.da)
def kj(p:Pg)(f:Pr)(x:In):Bool:=
 decide (0<=x.op)&&(decide (x.op<=27)&&(mY p f (sg x.op.toNat) x.a&&(mY p f (uS x.op.toNat) x.b&&(if x.op=10 then(p.cU.getD x.a.toNat gu).fP.all (me f)else true))))
def jq(x:In):Int:=if x.op=22\/x.op=23\/x.op=24 then tk x.op.toNat+x.a else tk x.op.toNat
def qK(x:In):Int:=if x.op=22 then x.b else lv x.op.toNat
def zF(x:In)(eA:Nat)(n:Int):List (Nat×Int):=if x.op=18\/x.op=23\/x.op=24 then[]else[(eA+1,n+qK x)]
def uR(x:In)(n:Int):List (Nat×Int):=
 if x.op=18\/x.op=19 then[(x.a.toNat,n)]else if x.op=20\/x.op=21 then[(x.a.toNat,n+1)]else if x.op=26\/x.op=27 then[(x.b.toNat,n)]else[]
def qq(dw:List In)(eA:Nat)(h:Int):Option (List (Nat×Int)):=
 if h-jq (dw.getD eA jI)<0\/300<h-jq (dw.getD eA jI)+qK (dw.getD eA jI)then none
 else some (zF (dw.getD eA jI) eA (h-jq (dw.getD eA jI))++uR (dw.getD eA jI) (h-jq (dw.getD eA jI)))
def Gx(dw:List In)(eA:Nat)(h:Int):Option (List (Nat×Int)):=
 if h-jq (dw.getD eA jI)<0\/300<h-jq (dw.getD eA jI)+qK (dw.getD eA jI)then none
 else some (uR (dw.getD eA jI) (h-jq (dw.getD eA jI))++zF (dw.getD eA jI) eA (h-jq (dw.getD eA jI)))
def A9(dw:List In)(N:Nat):oM (Gx dw) N↔oM (qq dw) N:=by
 unfold oM zr Gx qq;constructor;all_goals
  rintro⟨H,E,F,I⟩;refine⟨H,E,F,λa J K=>?_⟩;obtain⟨M,h,L⟩:=I a J K;by_cases D:H.getD a (-1)-jq (dw.getD a jI)<0\/300<H.getD a (-1)-jq (dw.getD a jI)+qK (dw.getD a jI)
  .rw[cR D]at h;cases h
  .rw[cK D]at h|-;simp only[dB]at h;subst h;refine⟨_,rfl,λe h=>L e ?_⟩;simp only[gI]at h|-;exact h.symm
structure Fw(N:Nat)(x:In):Prop where
 lo:0≤x.op
 hi:x.op≤27
 Wi:18≤x.op→x.op≤21→0≤x.a∧x.a<(N:Int)
 VZ:22≤x.op→x.op≤24→0≤x.a∧x.a≤50
 SZ:x.op=22→0≤x.b∧x.b≤50
 loop:26≤x.op→0≤x.b∧x.b<(N:Int)
def vu{u:Nat}(h:mY p f u v=true):pA u<=v/\v<db p.dv.length p.cU.length f.da f.fP.length f.dw.length u:=by unfold mY kn at h;simpa using h
def sO{z:Int}(h:0<=z)(D:z<=27):∃n:Nat,n<28/\z=(n:Int):=⟨z.toNat,cM,cM⟩
def vz(h:kj p f x=true):Fw f.dw.length x:=by
 unfold kj at h;simp only[fY,uL]at h;obtain⟨F,I,D,E,_⟩:=h;replace D:=vu D;replace E:=vu E;refine⟨F,I,λa b=>?_,λa b=>?_,λa=>?_,λa=>?_⟩
 .have e:x.op=18\/x.op=19\/x.op=20\/x.op=21:=cM;obtain e|e|e|e:=e<;>(rw[e]at D;exact⟨D.1,D.2⟩)
 .have e:x.op=22\/x.op=23\/x.op=24:=cM;obtain e|e|e:=e<;>(rw[e]at D;exact⟨D.1,WB.1 D.2⟩)
 .rw[a]at E;exact⟨E.1,WB.1 E.2⟩
 .have e:x.op=26\/x.op=27:=cM;obtain e|e:=e<;>(rw[e]at E;exact⟨E.1,E.2⟩)
def Vq(N:Nat):Fw N jI:=⟨iM,iM,by simp[jI],by simp[jI],by simp[jI],by simp[jI]⟩
def PY{α:Type}{l:List α}{d:α}(h:¬i<l.length):l.getD i d=d:=by rw[cB,dO cM];rfl
def Iu(n:Nat)(h:n<28):0<=tk n/\tk n<=3/\0<=lv n/\lv n<=1:=by
 have:n∈List.range 28:=tQ.2 h
 revert n
 decide
def Gn{n:Nat}(h:n=20\/n=21):tk n=1:=by obtain rfl|rfl:=h<;>rfl
def Fw.AK(h:Fw N x):0<=jq x/\jq x<=53/\0<=qK x/\qK x<=50:=by have t:=Iu x.op.toNat (by have:=h.lo;have:=h.hi;omega);unfold jq qK;have:=h.VZ;have:=h.SZ;split<;>split<;>omega
def OK{dw:List In}(D:∀i,i<dw.length->Fw N (dw.getD i jI))(i:Nat):Fw N (dw.getD i jI):=by
 by_cases h:i<dw.length
 .exact D i h
 .rw[PY h];exact Vq N
def Mb{dw:List In}(E:∀i,i<dw.length->Fw N (dw.getD i jI)):
  ∀a h F,0<=h->h<=300->qq dw a h=some F->∀e∈F,0<=e.2/\e.2<=300:=by
 intro a h F J K D e I;have x:=OK E a;unfold qq at D;generalize dw.getD a jI=d at D x;have t:=x.AK;split at D
 .cases D
 .rename_i L;simp only[dB]at D;subst D;obtain h|h:=gI.1 I
  .unfold zF at h;split at h
   .simp at h
   .simp only[iJ]at h;subst h;simp only;omega
  .unfold uR at h;split at h
   .simp only[iJ]at h;subst h;simp only;omega
   .split at h
    .rename_i _ M;simp only[iJ]at h;subst h;simp only;have O:jq d=1:=by
      unfold jq;rw[cK cM];exact Gn cM
     omega
    .split at h
     .simp only[iJ]at h;subst h;simp only;omega
     .simp at h
def OV{dw:List In}(E:∀i,i<dw.length->Fw N (dw.getD i jI)):
  ∀a h F,0<=h->h<=300->Gx dw a h=some F->∀e∈F,0<=e.2/\e.2<=300:=by
 intro a h F J K D e I;unfold Gx at D;split at D
 .cases D
 .rename_i L;simp only[dB]at D;subst D;refine Mb E a h _ J K (by unfold qq;rw[cK L]) e ?_;simp only[gI]at I|-;exact I.symm
def qm(c:Cn):Prop:=c.oy.length<=5000/\(c.pB=true->c.n=0)/\(c.pB=false->c.oy.length=0)
def vX(f:Pr):Prop:=0<=f.params/\f.params<=f.da/\f.da<=200/\f.fP.length<=100/\0<f.dw.length/\∀i,i<f.fP.length->0<=(f.fP.getD i lY).index/\(f.fP.getD i lY).index<200
def pk(l:List Pr)(k:Nat):Nat:=((l.take k).map λf=>f.dw.length).sum
def xC(p:Pg):Prop:=
 (1<=p.cU.length/\p.cU.length<=500/\p.dv.length<=20000)/\(∀i,i<p.dv.length->qm (p.dv.getD i mU))/\(∀i,i<p.cU.length->vX (p.cU.getD i gu)) /\
 pk p.cU p.cU.length<=20000/\(p.cU.getD 0 gu).params=0/\(p.cU.getD 0 gu).fP.length=0
def Ot(p:Pg)(f:Pr):Prop:=(∀i,i<f.dw.length->kj p f (f.dw.getD i jI)=true)/\oM (qq f.dw) f.dw.length
def j5(p:Pg):Prop:=xC p/\∀i,i<p.cU.length->Ot p (p.cU.getD i gu)
end chk
namespace pg
open RowKit bts
variable{m:Nat}{α:Type}
def sK(left:Int)(m:Nat):Int:=if (m:Int)<=left then left-(m:Int)else -1
def mB{left:Int}(h:(m:Int)<=left):sK left m=left-(m:Int):=by unfold sK;rw[cR h]
def kK{left:Int}(h:¬(m:Int)<=left):sK left m=-1:=by unfold sK;rw[cK h]
def Gu(left:Int)(m:Nat)(h:0<=left)(D:left<=16777216):sK left m=-1\/(0<=sK left m/\sK left m<=16777216):=by unfold sK;split<;>omega
def si{a b:Int}(h:a=b):Ending.returned (.int .i64 a)=.returned (.int .i64 b):=by rw[h]
def fE{w:World}{cs:Array Value}{t:TypeId}{j:Nat}{v:Value}(h:cs[j]?=some v):(w.alloc (.cells cs t)).cell? ⟨w.heap.size,j,none⟩=some v:=by simp only[World.cell?,dJ];exact h
def fN{α:Type}(f:α->Nat)(l:List α)(k:Nat):Nat:=((l.take k).map f).sum
def kF{f:α->Nat}{l:List α}{k:Nat}(d:α)(h:k<l.length):fN f l (k+1)=fN f l k+f (l.getD k d):=by unfold fN;rw[mm h,gX,Lq];simp[cB,cG h]
def oW{f:α->Nat}(d:α)(l:List α):∀(j k:Nat),k+j=l.length->fN f l k<=fN f l l.length
 |0,k,h=>by rw[show k=l.length by omega];exact cE _
 |j+1,k,h=>by have:=oW (f:=f) d l j (k+1) cM;rw[kF d cM]at this;omega
def pV{f:α->Nat}{l:List α}{i:Nat}(d:α)(h:i<l.length):f (l.getD i d)<=fN f l l.length:=by have D:=kF (f:=f) d h;have E:=oW (f:=f) d l (l.length-(i+1)) (i+1) cM;omega
def kG(d:Cn):Nat:=d.oy.length
def kL(d:Pr):Nat:=d.fP.length+d.dw.length
def jw(l:List Cn):Nat:=l.length+fN kG l l.length
def jH(l:List Pr):Nat:=l.length+fN kL l l.length
def jT(p:Pg):Nat:=jw p.dv+jH p.cU
def wO(ao:Option Addr)(m cap:Nat)(left:Int)(w:World)(E:0<=left)(F:left<=16777216)(I:m<=9223372036854775807):
  zC 19 #[.slice ao m cap,zI left] w λe D=>e=.returned (zI (sK left m))/\D=w:=by
 by_cases h:(m:Int)<=left
 .rw[mB h];go_enter func19,ntmps19;go_wp2;go_ret;exact⟨rfl,rfl⟩
 .rw[kK h];go_enter func19,ntmps19;go_wp2;go_ret;exact⟨rfl,rfl⟩
def yl(ao:Option Addr)(m cap:Nat)(left:Int)(w:World)(E:0<=left)(F:left<=16777216)(I:m<=9223372036854775807):
  zC 71 #[.slice ao m cap,zI left] w λe D=>e=.returned (zI (sK left m))/\D=w:=by
 by_cases h:(m:Int)<=left
 .rw[mB h];go_enter func71,ntmps71;go_wp2;go_ret;exact⟨rfl,rfl⟩
 .rw[kK h];go_enter func71,ntmps71;go_wp2;go_ret;exact⟨rfl,rfl⟩
def Gv(ao:Option Addr)(m cap:Nat)(left:Int)(w:World)(E:0<=left)(F:left<=16777216)(I:m<=9223372036854775807):
  zC 72 #[.slice ao m cap,zI left] w λe D=>e=.returned (zI (sK left m))/\D=w:=by
 by_cases h:(m:Int)<=left
 .rw[mB h];go_enter func72,ntmps72;go_wp2;go_ret;exact⟨rfl,rfl⟩
 .rw[kK h];go_enter func72,ntmps72;go_wp2;go_ret;exact⟨rfl,rfl⟩
def DV(k:Bool)(n:Int)(I:Value)(t:List Int)(left:Int)(w:World)(O:AB w I t)(J:0<=left)(K:left<=16777216):
  zC 40 #[.agg #[.bool k,zI n,I],zI left] w λe E=>e=.returned (zI (sK left t.length))/\∃o,E=w.alloc o:=by
 obtain⟨ao,cap,rfl,L,hr,hz⟩:=O;obtain⟨m,h⟩:=eX t.length;rw[<-h]at L|-;clear hr hz h;have M:=λE=>wO ao m cap left E J K L;have D:=Gu left m J K;generalize sK left m=r at M D|-;obtain rfl|⟨r0,r1⟩:=D;all_goals
  go_enter func40,ntmps40;go_wp2_with(go_at_call 19;refine(M _).mono ?_;rintro e E ⟨rfl,F⟩;replace F:=F.symm;subst F)
  go_ret;exact⟨rfl,_,rfl⟩
def DT(k n:Int)(uc ud:Value)(c:List Cp)(d:List In)(left:Int)(w:World)(hc:qk w uc c)(hd:qO w ud d)(h0:0<=left)(h1:left<=16777216):
  zC 41 #[.agg #[zI k,zI n,uc,ud],zI left] w λe E=>e=.returned (zI (sK left (c.length+d.length)))/\∃o,E=w.alloc o:=by
 obtain⟨ao,cap,rfl,hm,hr⟩:=hc;obtain⟨bo,F,rfl,I,O⟩:=hd;obtain⟨m,J⟩:=eX c.length;obtain⟨q,K⟩:=eX d.length;rw[<-J]at hm|-;rw[<-K]at I|-;clear hr O J K;have M:=λE=>yl ao m cap left E h0 h1 hm;by_cases hf:(m:Int)<=left
 .rw[mB hf]at M;have C2:=λE=>Gv bo q F (left-(m:Int)) E cM cM I;have HE:sK left (m+q)=sK (left-(m:Int)) q:=by
   by_cases h:(q:Int)<=left-(m:Int)
   .rw[mB h,mB cM];omega
   .rw[kK h,kK cM]
  rw[HE];have L:=Gu (left-(m:Int)) q cM cM;generalize sK (left-(m:Int)) q=r at C2 L|-;clear HE;obtain rfl|⟨r0,r1⟩:=L;all_goals
   go_enter func41,ntmps41;go_wp2_with(first|(go_at_call 71;refine(M _).mono ?_;rintro e E ⟨rfl,D⟩;replace D:=D.symm;subst D)|(go_at_call 72;refine(C2 _).mono ?_;rintro e E ⟨rfl,D⟩;replace D:=D.symm;subst D))
   go_ret;exact⟨rfl,_,rfl⟩
 .rw[kK hf]at M;rw[kK cM];go_enter func41,ntmps41;go_wp2_with(go_at_call 71;refine(M _).mono ?_;rintro e E ⟨rfl,D⟩;replace D:=D.symm;subst D)
  go_ret;exact⟨rfl,_,rfl⟩
def BY(v:Value)(l:List Cn)(left:Int)(w:World)(hr:lX w v l)(h0:0<=left)(h1:left<=16777216):
  zC 17 #[v,zI left] w (zR w (zI (sK left (jw l)))):=by
 obtain⟨ao,cap,rfl,hm,hr⟩:=hr;obtain⟨n,hnn⟩:=eX l.length;have HL:=cO hnn.symm;rw[<-hnn]at hm|-;clear hnn;by_cases hlf:(n:Int)<=left
 .go_enter func17,ntmps17;go_wp2;go_loopw[1,5] (λq i wr=>∃(k:Nat)(r:Int),k<=n/\i=zI k/\q=zI r/\0<=r/\r<=16777216/\Hid (r=left-(n:Int)-(fN kG l k:Int))/\zB w wr) (λ_ i _=>n-(intOf i).toNat)
  case atStart=>exact⟨0,left-(n:Int),dM _,rfl,rfl,cM,cM,by show _=_;simp[fN],cN _ _⟩
  case round=>
   obtain⟨k,r,hk,rfl,rfl,hr0,hr1,HS,hbel⟩:=hrel;by_cases hlt:k<n
   .obtain⟨b,off,ut,rfl,c0,c1,c2,ht⟩:=(Td.below hr hbel) k (HL▸hlt);have HLS:Hid (fN kG l (k+1)=fN kG l k+kG (l.getD k mU)):=kF mU (HL▸hlt);have HLL:Hid (fN kG l (k+1)<=fN kG l l.length):=oW mU l (l.length-(k+1)) (k+1) (by rw[HL.out];omega);generalize l.getD k mU=d at c0 c1 ht HLS;obtain⟨d0,d1,tx⟩:=d;simp only at c0 c1 ht;have HLS2:Hid (fN kG l (k+1)=fN kG l k+tx.length):=HLS;have C:=DV d0 d1 ut tx r wr ht hr0 hr1;obtain⟨m,hmm⟩:=eX tx.length;rw[<-hmm]at C HLS2;have hBs:=hbel.size;clear hmm ht HLS;by_cases hfit:(m:Int)<=r
    .rw[mB hfit]at C;go_wp2_with(go_at_call 40;refine C.mono ?_;rintro e w' ⟨rfl,o,rfl⟩)
     go_roundw
     case rel=>exact⟨k+1,r-(m:Int),cM,l9,rfl,cM,cM,by show _=_;have:=HS.out;have:=HLS2.out;omega,hbel.alloc hBs _⟩
     case measure=>simp[intOf];omega
    .rw[kK hfit]at C;have HE:Hid (sK left (jw l)=-1):=kK (by unfold jw;have:=HS.out;have:=HLS2.out;have:=HLL.out;have:=HL.out;omega);go_wp2_with(go_at_call 40;refine C.mono ?_;rintro e w' ⟨rfl,o,rfl⟩)
     go_ret;exact⟨si (by rw[HE]),hbel.alloc hBs _⟩
   .have hkn:k=n:=cM;subst hkn;have HE:Hid (sK left (jw l)=r):=by
     show _=_;have e1:=HS.out;have e2:=HL.out;have e3:jw l=k+fN kG l k:=by unfold jw;rw[e2]
     rw[e3,mB cM,e1];omega
    go_wp2;go_ret;exact⟨si (by rw[HE]),hbel⟩
 .have HE:Hid (sK left (jw l)=-1):=kK (by unfold jw;have:=HL.out;omega);go_enter func17,ntmps17;go_wp2;go_ret;exact⟨si (by rw[HE]),cN _ _⟩
def BQ(v:Value)(l:List Pr)(left:Int)(w:World)(hr:kZ w v l)(h0:0<=left)(h1:left<=16777216):
  zC 18 #[v,zI left] w (zR w (zI (sK left (jH l)))):=by
 obtain⟨ao,cap,rfl,hm,hr⟩:=hr;obtain⟨n,hnn⟩:=eX l.length;have HL:=cO hnn.symm;rw[<-hnn]at hm|-;clear hnn;by_cases hlf:(n:Int)<=left
 .go_enter func18,ntmps18;go_wp2;go_loopw[1,5] (λq i wr=>∃(k:Nat)(r:Int),k<=n/\i=zI k/\q=zI r/\0<=r/\r<=16777216/\Hid (r=left-(n:Int)-(fN kL l k:Int))/\zB w wr) (λ_ i _=>n-(intOf i).toNat)
  case atStart=>exact⟨0,left-(n:Int),dM _,rfl,rfl,cM,cM,by show _=_;simp[fN],cN _ _⟩
  case round=>
   obtain⟨k,r,hk,rfl,rfl,hr0,hr1,HS,hbel⟩:=hrel;by_cases hlt:k<n
   .obtain⟨b,off,uc,ud,rfl,c0,c1,c2,c3,hc,hd⟩:=(SF.below hr hbel) k (HL▸hlt);have HLS:Hid (fN kL l (k+1)=fN kL l k+kL (l.getD k gu)):=kF gu (HL▸hlt);have HLL:Hid (fN kL l (k+1)<=fN kL l l.length):=oW gu l (l.length-(k+1)) (k+1) (by rw[HL.out];omega);generalize l.getD k gu=d at c0 c1 hc hd HLS;obtain⟨d0,d1,cs,is⟩:=d;simp only at c0 c1 hc hd;have HLS2:Hid (fN kL l (k+1)=fN kL l k+(cs.length+is.length)):=HLS;have C:=DT d0 d1 uc ud cs is r wr hc hd hr0 hr1;obtain⟨m,hmm⟩:=eX (cs.length+is.length);rw[<-hmm]at C HLS2;have hBs:=hbel.size;clear hmm hc hd HLS;by_cases hfit:(m:Int)<=r
    .rw[mB hfit]at C;go_wp2_with(go_at_call 41;refine C.mono ?_;rintro e w' ⟨rfl,o,rfl⟩)
     go_roundw
     case rel=>exact⟨k+1,r-(m:Int),cM,l9,rfl,cM,cM,by show _=_;have:=HS.out;have:=HLS2.out;omega,hbel.alloc hBs _⟩
     case measure=>simp[intOf];omega
    .rw[kK hfit]at C;have HE:Hid (sK left (jH l)=-1):=kK (by unfold jH;have:=HS.out;have:=HLS2.out;have:=HLL.out;have:=HL.out;omega);go_wp2_with(go_at_call 41;refine C.mono ?_;rintro e w' ⟨rfl,o,rfl⟩)
     go_ret;exact⟨si (by rw[HE]),hbel.alloc hBs _⟩
   .have hkn:k=n:=cM;subst hkn;have HE:Hid (sK left (jH l)=r):=by
     show _=_;have e1:=HS.out;have e2:=HL.out;have e3:jH l=k+fN kL l k:=by unfold jH;rw[e2]
     rw[e3,mB cM,e1];omega
    go_wp2;go_ret;exact⟨si (by rw[HE]),hbel⟩
 .have HE:Hid (sK left (jH l)=-1):=kK (by unfold jH;have:=HL.out;omega);go_enter func18,ntmps18;go_wp2;go_ret;exact⟨si (by rw[HE]),cN _ _⟩
def Ae(L F:Value)(p:Pg)(left:Int)(w:World)(M:lX w L p.dv)(O:kZ w F p.cU)(h0:0<=left)(h1:left<=16777216):
  zC 4 #[.agg #[L,F],zI left] w (zR w (zI (sK left (jT p)))):=by
 have I:Hid (∀W,zB w W->zC 17 #[L,zI left] W (zR W (zI (sK left (jw p.dv))))):=
  λW hW=>BY L p.dv left W (M.below hW) h0 h1
 by_cases hf:(jw p.dv:Int)<=left
 .rw[mB hf]at I;have C2:Hid (∀W,zB w W->zC 18 #[F,zI (left-(jw p.dv:Int))] W (zR W (zI (sK (left-(jw p.dv:Int)) (jH p.cU))))):=
   λW hW=>BQ F p.cU (left-(jw p.dv:Int)) W (O.below hW) cM cM
  have HE:sK left (jT p)=sK (left-(jw p.dv:Int)) (jH p.cU):=by
   unfold jT;by_cases h:(jH p.cU:Int)<=left-(jw p.dv:Int)
   .rw[mB h,mB cM];omega
   .rw[kK h,kK cM]
  rw[HE];have J:=Gu (left-(jw p.dv:Int)) (jH p.cU) cM cM;generalize sK (left-(jw p.dv:Int)) (jH p.cU)=r at C2 J|-;have r2:0<=left-(jw p.dv:Int)/\left-(jw p.dv:Int)<=16777216:=cM;generalize left-(jw p.dv:Int)=r' at I C2 r2;obtain⟨ab,ac⟩:=r2;clear HE M O hf h0 h1;obtain rfl|⟨r0,r1⟩:=J;all_goals
   go_enter func4,ntmps4;go_wp2_with fail;refine(I _ (ba)).mono ?_;rintro e w1 ⟨rfl,D⟩;have E:=cO ((ba).trans (D.mono dC));have hc:=di (fE (j:=1) (v:=F) rfl) D;clear D;go_wp2_with fail;refine(C2 _ E).mono ?_;rintro e w2 ⟨rfl,K⟩;have aa:=cO (iy E K);clear K;go_wp2;go_ret;exact⟨rfl,aa⟩
 .rw[kK hf]at I;rw[kK (by unfold jT;omega)];clear M O;go_enter func4,ntmps4;go_wp2_with fail;refine(I _ (ba)).mono ?_;rintro e w1 ⟨rfl,D⟩;have E:=cO ((ba).trans (D.mono dC));clear D;go_wp2;go_ret;exact⟨rfl,E⟩
end pg
namespace rn
open RowKit
variable{a:Act}{K:Act->World->Prop}{D:Array Bool}{ops:Array Oper}{Q:Exit→Act→World→Prop}{l:List Oper}{b i j z:Nat}{n:Next}{M o:Oper}{P:Program}{u v:Value}{W W' w w':World}{S:World→Prop}
structure Wd(S:World→Prop) where
 w:World
 ok:S w
def Vc(S:World->Prop)(W:World):Prop:=∃x:Wd S,W=x.w
def still(o:Oper):Bool:=match o.op with
 |.move _|.assign _|.load ..|.nilCheck _|.fieldAddr ..|.indexAddr ..|.field ..|.index ..|.binOp ..|.unOp ..|.slice ..|.build ..|.convert ..|.makeInterface ..|.typeAssert ..|.extract ..=>true
 |.call c=>match c.callee with
  |.builtin .len|.builtin .min=>true
  |_=>false
 |_=>false
def Rl{s:Sem Value}(h:(do pure (Next.value (<-s)):Sem Next).run P w=.ok n w'):∃u,n=.value u:=by
 simp only[iS,jB]at h;cases D:s.run P w with
 |ok x E=>rw[D]at h;simp only[iD]at h;cases h;exact⟨x,rfl⟩
 |halt x E=>rw[D]at h;cases h
def px{α β:Type}{r:Result α}{f:α->World->Result β}{y:β}(h:r.andThen f=.ok y w'):∃x D,r=.ok x D/\f x D=.ok y w':=by
 cases r with
 |ok x D=>exact⟨x,D,rfl,h⟩
 |halt x D=>cases h
def sM{ρ:Operand->Value}(h:still o=true)(D:(execOp ρ o).run P w=.ok n w'):∃u,n=.value u:=by
 unfold still at h;unfold execOp at D;cases J:o.op<;>rw[J]at h D<;>dsimp only at h D
 case nilCheck x=>
  split at D;all_goals first
   |(simp only[jB]at D;cases D;exact⟨_,rfl⟩)
   |(cases D;done)
   |skip
  split at D
  .cases D
  .simp only[iS]at D;obtain⟨F,I,_,D⟩:=px D;obtain⟨K,L,_,D⟩:=px D;split at D
   .simp only[iS]at D;obtain⟨M,O,_,D⟩:=px D;simp only[jB]at D;cases D;exact⟨_,rfl⟩
   .simp only[jB]at D;cases D;exact⟨_,rfl⟩
  .simp only[jB]at D;cases D;exact⟨_,rfl⟩
 case call c=>
  split at h
  .rename_i E;simp only[resolve,E,iS,jB,iD,invoke,builtin]at D;obtain⟨F,I,_,D⟩:=px D;cases D;exact⟨_,rfl⟩
  .rename_i E;simp only[resolve,E,iS,jB,iD,invoke,builtin]at D;obtain⟨F,I,_,D⟩:=px D;cases D;exact⟨_,rfl⟩
  .cases h
 all_goals first
  |(cases h;done)
  |(simp only[jB]at D;cases D;exact⟨_,rfl⟩)
  |exact Rl D
def QX(ops:Array Oper):Nat->Nat->Nat->Bool
 |0,_,_=>false
 |f+1,j,i=>match ops[j]? with
  |some o=>o.after.any (λe=>Region.binds .any e&&e.on==i) || o.after.any λe=>Region.binds .any e&&QX ops f e.on i
  |none=>false
def nA(ops:Array Oper)(h:Array Bool):Prop:=∀j o,ops[j]?=some o->h.getD j false=true->∀e∈o.after,Region.binds .any e=true->h.getD e.on false=true
def nA.new(ops:Array Oper)(n:Nat):nA ops (Array.replicate n false):=λj o _ h=>by rw[Ov,Array.getElem?_replicate]at h;split at h<;>cases h
def nA.set(h:nA ops D)(M:j∈Region.ready .any ops D):nA ops (D.setIfInBounds j true):=by
 intro k o F J e K L;obtain⟨_,O,I,E⟩:=vY.1 M;by_cases x:j=k
 .subst x;rw[I]at F;cases F;exact getD_set_true (E e K L)
 .rw[getD_set_ne false x]at J;exact getD_set_true (h k o F J e K L)
def uK(K:nA ops D):∀(f j i:Nat),(∀o,ops[j]?=some o->∀e∈o.after,Region.binds .any e=true->D.getD e.on false=true)->QX ops f j i=true->D.getD i false=true
 |0,_,_,_,h=>by cases h
 |f+1,j,i,L,h=>by
  unfold QX at h;cases E:ops[j]? with
  |none=>rw[E]at h;cases h
  |some o=>
   rw[E]at h;simp only[Bool.or_eq_true,Array.any_eq_true,fY,oq]at h;obtain⟨k,F,I,e⟩|⟨k,F,I,e⟩:=h
   .rw[<-e];exact L o E _ (WW F) I
   .exact uK K f _ i (λM J=>K _ M J (L o E _ (WW F) I)) e
def Ord(P:Program)(ops:Array Oper)(Q:Exit->Act->World->Prop)(S:World->Prop)(z:Nat):Nat->Array Bool->Act->World->Prop
 |0,h,a,w=>Region.ready .any ops h=[]/\Q .normal a w
 |n+1,h,a,w=>(Region.ready .any ops h=[]->Q .normal a w)/\∀i∈Region.ready .any ops h,wpOp P ops Q i (λD w'=>(i<z->S w')/\Ord P ops Q S z n (h.setIfInBounds i true) D w') a w
def Ord.any:∀(n:Nat)(D:Array Bool)(a:Act)(w:World),Ord P ops Q S z n D a w->wpAny P .any ops Q n D a w
 |0,_,_,_,h=>h
 |n+1,_,_,_,h=>⟨h.1,λi E=>SN (λF w' I=>Ord.any n _ F w' I.2) (h.2 i E)⟩
def DK(h:D.getD i true=false):D.getD i false=false:=by
 obtain E|E:=xj i D.size
 .simp[E]at h|-;exact h
 .simp[Tu E]at h
def Ord.first(hi:ops[i]?=some M)(hz:∀j,z<=j->j<ops.size->QX ops ops.size j i=true)(ah:i<z)(J:∀(j:Nat) (o:Oper) cs b,ops[j]?=some o->o.op≠.select cs b)(hQ:∀c a w,Q (.panic c) (a.put M.dst v) w->Q (.panic c) a w)(n:Nat):
  ∀(D:Array Bool)(a:Act)(w:World),nA ops D->(∀j L,ops[j]?=some L->j≠i->D.getD j true=false->(∀e∈L.after,Region.binds .any e=true->e.on≠i)->M.apart ops L=true)->i∈Region.ready .any ops D->YieldsIf P ops S M v a->S w->Ord P ops Q S z n (D.setIfInBounds i true) (a.put M.dst v) w->Ord P ops Q S z (n+1) D a w:=by
 induction n with
 |zero=>
  intro D a w _ _ O hy hS H;refine⟨λh=>absurd (h▸O) dC,λj hj=>?_⟩;by_cases E:j=i
  .rw[E];exact hy.wpOp hi hS ⟨λ_=>hS,H⟩
  .have:=wX hj E;rw[H.1]at this;cases this
 |succ n ih=>
  intro D a w hc F O hy hS H;refine⟨λh=>absurd (h▸O) dC,λj hj=>?_⟩;by_cases E:j=i
  .rw[E];exact hy.wpOp hi hS ⟨λ_=>hS,H⟩
  .obtain⟨aa,L,I,K⟩:=vY.1 hj;have ab:=DK (vY.1 O).1;have ac:∀e∈L.after,Region.binds .any e=true->e.on≠i:=λe he hb heq=>by
    have h1:=K e he hb;rw[heq,ab]at h1;cases h1
   have ad:j<z:=by apply Nat.lt_of_not_le;intro af;have ha:=hz j af (dS.1 I).1;have:=uK hc _ j i (λo ho e he hb=>by rw[I]at ho;cases ho;exact K e he hb) ha;rw[ab]at this;cases this
   have h2:=wpOp_putIf I (F j L I E aa ac) (λcs b=>J i M cs b hi) (λcs b=>J j L cs b I) hQ hy (H.2 j (wX hj E));have ag:=wX O (Ne.symm E);refine SN (λa' w' h3=>⟨λ_=>h3.2.1 ad,ih (D.setIfInBounds j true) a' w' (hc.set hj) (λk ok hk hki hunk hno=>F k ok hk hki ?_ hno) ag h3.1 (h3.2.1 ad) ?_⟩) h2
   .by_cases ae:j=k
    .rw[<-ae];exact aa
    .rwa[getD_set_ne true ae]at hunk
   .rw[Rh _ _ E];exact h3.2.2
def Qn(Q:Exit->Act->World->Prop)(N:Act->World->Prop):Exit->Act->World->Prop
 |.normal,a,w=>N a w
 |e,a,w=>Q e a w
def oT(P:Program)(ops:Array Oper)(Q:Exit->Act->World->Prop)(S:World->Prop):Nat->List Oper->Act->World->Prop
 |0,l,a,w=>wpList P ops Q l a w
 |_+1,[],a,w=>Q .normal a w
 |m+1,o::h,a,w=>wpList P ops (Qn Q λD w'=>S w'/\oT P ops Q S m h D w') [o] a w
def forced(ops:Array Oper):Nat->Nat->Array Bool->Bool
 |0,_,h=>(Region.ready .any ops h).isEmpty
 |f+1,k,h=>Region.ready .any ops h==[k]&&forced ops f (k+1) (h.setIfInBounds k true)
def IU:∀(l:List Oper)(k:Nat)(D:Array Bool)(a:Act)(w:World),z<=k->(∀j,l[j]?=ops[k+j]?)->forced ops l.length k D=true->wpList P ops Q l a w->Ord P ops Q S z l.length D a w
 |[],_,_,_,_,_,_,E,h=>⟨by simpa[forced]using E,h⟩
 |o::l,k,D,a,w,hz,L,E,h=>by
  have h0:ops[k]?=some o:=by simpa using(L 0).symm
  simp only[dt,forced,fY,oq]at E;obtain⟨M,F⟩:=E;refine⟨λe=>(by rw[M]at e;cases e),λi O=>?_⟩;rw[M]at O;obtain rfl:i=k:=by simpa using O
  have ih:=λI J=>IU l (i+1) (D.setIfInBounds i true) I J cM (λj=>by have:=L (j+1);simpa[Dy,Gd 1 j]using this) F;unfold wpOp;simp only[h0];unfold wpList at h;split at h
  .rename_i K;rw[cR K];exact h.imp (sE λI J h'=>⟨λx=>absurd x cM,ih I J h'⟩) id
  .rename_i K;rw[cK K];exact⟨λx=>absurd x cM,ih _ _ h⟩
def IT:∀(m:Nat)(l:List Oper)(k:Nat)(D:Array Bool)(a:Act)(w:World),z=k+m->(∀j,l[j]?=ops[k+j]?)->forced ops l.length k D=true->oT P ops Q S m l a w->Ord P ops Q S z l.length D a w
 |0,l,k,D,a,w,hz,I,E,h=>IU l k D a w cM I E h
 |_+1,[],_,_,_,_,_,_,E,h=>⟨by simpa[forced]using E,h⟩
 |m+1,o::l,k,D,a,w,hz,I,E,h=>by
  have h0:ops[k]?=some o:=by simpa using(I 0).symm
  simp only[dt,forced,fY,oq]at E;obtain⟨O,J⟩:=E;refine⟨λe=>(by rw[O]at e;cases e),λi hi=>?_⟩;rw[O]at hi;obtain rfl:i=k:=by simpa using hi
  have ih:=λK L=>IT m l (i+1) (D.setIfInBounds i true) K L cM (λj=>by have:=I (j+1);simpa[Dy,Gd 1 j]using this) J;unfold wpOp;simp only[h0];unfold oT wpList at h;split at h
  .rename_i M;rw[cR M];exact h.imp (λh'=>sE (λK L F=>⟨λ_=>F.1,ih K L F.2⟩) h') id
  .rename_i M;rw[cK M];exact⟨λ_=>h.1,ih _ _ h.2⟩
def PD(ops:Array Oper)(z D:Nat):Nat->Nat->Array Bool->Bool
 |0,k,h=>forced ops D k h
 |f+1,k,h=>(Region.ready .any ops h).contains k&&Region.free .any ops h k&&((ops[k]?).map still).getD false&&(((List.range ops.size).all λj=>j<z || QX ops ops.size j k)&&decide (k<z))&&PD ops z D f (k+1) (h.setIfInBounds k true)
def JV(pre suf:List Oper)(z:Nat):Bool:=Region.noSelect (pre++suf).toArray&&PD (pre++suf).toArray z suf.length pre.length 0 (Array.replicate (pre++suf).length false)
def IS(hs:Region.noSelect ops=true)(hQ:∀d v c a w,Q (.panic c) (a.put d v) w->Q (.panic c) a w)(suf:List Oper)(m:Nat)(hS:S w):∀(l:List Oper)(k:Nat)(D:Array Bool)(a:Act),nA ops D->(∀j,(l++suf)[j]?=ops[k+j]?)->z=k+l.length+m ->
  PD ops z suf.length l.length k D=true->wpQuiet P ops (Vc S) (λM=>oT P ops Q S m suf M w) l a->Ord P ops Q S z (l++suf).length D a w
 |[],k,D,a,O,J,hz,K,h=>IT m suf k D a w (by simpa using hz) (by simpa using J) K h
 |o::l,k,D,a,O,J,hz,K,h=>by
  have F:ops[k]?=some o:=by simpa using(J 0).symm
  simp only[dt,PD,fY,oE,tQ,Bool.or_eq_true,uL]at K;obtain⟨⟨⟨⟨L,hf⟩,E⟩,aa,ab⟩,ac⟩:=K;have L:k∈Region.ready .any ops D:=by simpa using L
  rw[F]at E;have E:=E;have hq:qOp P ops (Vc S) k (wpQuiet P ops (Vc S) (λM=>oT P ops Q S m suf M w) l) a:=by unfold qOp;simp only[F];exact h
  obtain⟨v,hy,hK⟩:=yieldsIn_of_qOp F hq;have ad:YieldsIf P ops S o v a:=by
   obtain⟨hw,hv⟩|hy:=hy
   .refine .inl ⟨hw,λW hW=>?_⟩;have I:=hv W ⟨⟨W,hW⟩,rfl⟩;unfold Oper.quietAt at I;generalize hR:(execOp a.eval o).run P W=r at I;cases r with
    |halt x w'=>cases I
    |ok n w' =>
     obtain⟨u,rfl⟩:=sM E hR;simp only[Oper.quietUpon]at I;obtain⟨rfl,rfl⟩:=I;rfl
   .exact .inr hy
  have gY:=IS hs hQ suf m hS l (k+1) (D.setIfInBounds k true) (a.put o.dst v) (O.set L) (λj=>by have:=J (j+1);simpa[Dy,Gd 1 j]using this) (by simp at hz;omega) ac hK;exact Ord.first F (λj h1 h2=>(aa j h2).resolve_left cM) ab (zZ hs) (hQ o.dst v) _ D a w O (Jm F hf) L ad hS gY
def Ac{id:Nat}{pre suf:List Oper}(S:World->Prop)(m:Nat)(E:P.follows .mixedOrders=true)(D:JV pre suf (pre.length+m)=true)(F:∀d v c a w,Q (.panic c) (a.put d v) w->Q (.panic c) a w)(I:S w.drew)(h:wpQuiet P (pre++suf).toArray (Vc S) (λJ=>oT P (pre++suf).toArray Q S m suf J w.drew) pre a):(Code.region id (pre++suf).toArray true).wp P Q a w:=by
 unfold JV at D;rw[fY]at D;refine Q1 E (Ord.any (S:=S) (z:=pre.length+m) _ _ _ _ ?_);have:=IS (ops:=(pre++suf).toArray) (z:=pre.length+m) D.1 F suf m I pre 0 (Array.replicate (pre++suf).length false) a (nA.new _ _) dC cM D.2 h;simpa using this
def mA{id:Nat}(S:World->Prop)(k m:Nat)(D:P.follows .mixedOrders=true)(E:JV (l.take k) (l.drop k) ((l.take k).length+m)=true)(F:∀d v c a w,Q (.panic c) (a.put d v) w->Q (.panic c) a w)(I:S w.drew)(h:wpQuiet P l.toArray (λW=>∃x:Wd S,W=x.w) (λJ=>oT P l.toArray Q S m (l.drop k) J w.drew) (l.take k) a):(Code.region id l.toArray true).wp P Q a w:=by
 have:=Ac (id:=id) (Q:=Q) (pre:=l.take k) (suf:=l.drop k) S m D E F I (by rw[xX];exact h);rwa[xX]at this
def sG{id:Nat}(k:Nat)(D:P.follows .mixedOrders=true)(E:JV (l.take k) (l.drop k) ((l.take k).length+0)=true)(F:∀d v c a w,Q (.panic c) (a.put d v) w->Q (.panic c) a w)(h:wpQuiet P l.toArray (λW=>∃n,W=w.drewN n) (λI=>wpList P l.toArray Q (l.drop k) I w.drew) (l.take k) a):(Code.region id l.toArray true).wp P Q a w:=by
 refine mA (λW=>∃n,W=w.drewN n) k 0 D E F ⟨1,rfl⟩ ?_;have e:(λW=>∃x:Wd (λW=>∃n,W=w.drewN n),W=x.w)=λW=>∃n,W=w.drewN n:=by funext W;exact propext ⟨λ⟨x,J⟩=>J▸x.ok,λh=>⟨⟨W,h⟩,rfl⟩⟩
 rw[e];exact h
def dI{m:Nat}{D:List Oper}(h:wpList P ops (Qn Q λE w'=>S w'/\oT P ops Q S m D E w') [o] a w):oT P ops Q S (m+1) (o::D) a w:=h
def ej(h:wpList P ops Q l a w):oT P ops Q S 0 l a w:=h
structure fI(w:World)(row:Option Nat)(W:World):Prop where
 size:w.heap.size≤W.heap.size
 block:∀k,k<w.heap.size→some k≠row→W.heap[k]?=w.heap[k]?
section
variable{row:Option Nat}
def fI.refl(w:World)(row:Option Nat):fI w row w:=⟨cE _,λ_ _ _=>rfl⟩
def fI.drew(h:fI w row W):fI w row W.drew:=⟨h.size,h.block⟩
def fI.alloc(h:fI w row W)(o:Obj):fI w row (W.alloc o):=⟨cV h.size dC,λk D E=>(gH _ _ _ (dj D h.size)).trans (h.block k D E)⟩
def fI.grown(h:fI w row W)(D:W.grownBy W' row):fI w row W':=⟨cV h.size D.size,λk E F=>(D.block k (dj E h.size) F).trans (h.block k E F)⟩
def fI.cell(h:fI w row W)(D:w.cell? ⟨b,j,none⟩=some u)(E:some b≠row):W.cell? ⟨b,j,none⟩=some u:=
 (dK (a:=(zA b j)) (h.block b (dy w (zA b j) D) E)).trans D
def Wd.cell{S:World->Prop}(h:S=fI w row)(x:Wd S)(D:w.cell? ⟨b,j,none⟩=some u)(E:some b≠row):x.w.cell? ⟨b,j,none⟩=some u:=by subst h;exact x.ok.cell D E
theorem pz{S:World->Prop}(h:S=fI w row):Nonempty (Wd S):=⟨⟨w,h▸fI.refl _ _⟩⟩
def Wd.cn{S:World->Prop}(h:S=fI w none)(D:w.cell? ⟨b,j,none⟩=some u)(x:Wd S):x.w.cell? ⟨b,j,none⟩=some u:=x.cell h D dC
def Wd.ce{S:World->Prop}(h:S=fI w row)(D:w.cell? ⟨b,j,none⟩=some u)(E:some b≠row)(x:Wd S):x.w.cell? ⟨b,j,none⟩=some u:=x.cell h D E
end
section
variable{id:Nat}
def uZ(k:Nat)(h:wpQuiet P l.toArray (λW=>∃n,W=w.drewN n) (λD=>wpList P l.toArray Q (l.drop k) D w.drew) (l.take k) a)(E:P.follows .mixedOrders=true:=by kernel_rfl)(F:JV (l.take k) (l.drop k) ((l.take k).length+0)=true:=by kernel_rfl)(I:∀d v c a w,Q (.panic c) (a.put d v) w->Q (.panic c) a w:=by intro d _ _ _ _ h;cases d <;> exact h):(Code.region id l.toArray true).wp P Q a w:=sG k E F I h
def uq(S:World->Prop)(k m:Nat)(D:S w.drew)(h:wpQuiet P l.toArray (λW=>∃x:Wd S,W=x.w) (λE=>oT P l.toArray Q S m (l.drop k) E w.drew) (l.take k) a)(F:P.follows .mixedOrders=true:=by kernel_rfl)(I:JV (l.take k) (l.drop k) ((l.take k).length+m)=true:=by kernel_rfl)(J:∀d v c a w,Q (.panic c) (a.put d v) w->Q (.panic c) a w:=by intro d _ _ _ _ h;cases d <;> exact h):(Code.region id l.toArray true).wp P Q a w:=mA S k m F I J D h
end
section
variable{fin:List Nat}
def tg(P:Program)(ops:Array Oper)(Q:Exit->Act->World->Prop)(S:World->Prop)(fin:List Nat):Nat->Array Bool->Act->World->Prop
 |0,h,a,w=>Region.ready .any ops h=[]/\Q .normal a w
 |n+1,h,a,w=>(Region.ready .any ops h=[]->Q .normal a w)/\∀i∈Region.ready .any ops h,wpOp P ops Q i (λD w'=>(fin.contains i=false->S w')/\tg P ops Q S fin n (h.setIfInBounds i true) D w') a w
def tg.any:∀(n:Nat)(D:Array Bool)(a:Act)(w:World),tg P ops Q S fin n D a w->wpAny P .any ops Q n D a w
 |0,_,_,_,h=>h
 |n+1,_,_,_,h=>⟨h.1,λi E=>SN (λF w' I=>tg.any n _ F w' I.2) (h.2 i E)⟩
def tg.first(hi:ops[i]?=some M)(hz:∀j∈fin,QX ops ops.size j i=true)(J:∀(j:Nat) (o:Oper) cs b,ops[j]?=some o->o.op≠.select cs b)(hQ:∀c a w,Q (.panic c) (a.put M.dst v) w->Q (.panic c) a w)(n:Nat):
  ∀(D:Array Bool)(a:Act)(w:World),nA ops D->(∀j L,ops[j]?=some L->j≠i->D.getD j true=false->(∀e∈L.after,Region.binds .any e=true->e.on≠i)->M.apart ops L=true)->i∈Region.ready .any ops D->YieldsIf P ops S M v a->S w->tg P ops Q S fin n (D.setIfInBounds i true) (a.put M.dst v) w->tg P ops Q S fin (n+1) D a w:=by
 induction n with
 |zero=>
  intro D a w _ _ O hy hS H;refine⟨λh=>absurd (h▸O) dC,λj hj=>?_⟩;by_cases E:j=i
  .rw[E];exact hy.wpOp hi hS ⟨λ_=>hS,H⟩
  .have:=wX hj E;rw[H.1]at this;cases this
 |succ n ih=>
  intro D a w hc F O hy hS H;refine⟨λh=>absurd (h▸O) dC,λj hj=>?_⟩;by_cases E:j=i
  .rw[E];exact hy.wpOp hi hS ⟨λ_=>hS,H⟩
  .obtain⟨aa,L,I,K⟩:=vY.1 hj;have ab:=DK (vY.1 O).1;have ac:∀e∈L.after,Region.binds .any e=true->e.on≠i:=λe he hb heq=>by
    have h1:=K e he hb;rw[heq,ab]at h1;cases h1
   have ad:fin.contains j=false:=by
    cases hf:fin.contains j
    .rfl
    .have ha:=hz j (by simpa using hf);have:=uK hc _ j i (λo ho e he hb=>by rw[I]at ho;cases ho;exact K e he hb) ha;rw[ab]at this;cases this
   have h2:=wpOp_putIf I (F j L I E aa ac) (λcs b=>J i M cs b hi) (λcs b=>J j L cs b I) hQ hy (H.2 j (wX hj E));have af:=wX O (Ne.symm E);refine SN (λa' w' h3=>⟨λ_=>h3.2.1 ad,ih (D.setIfInBounds j true) a' w' (hc.set hj) (λk ok hk hki hunk hno=>F k ok hk hki ?_ hno) af h3.1 (h3.2.1 ad) ?_⟩) h2
   .by_cases ae:j=k
    .rw[<-ae];exact aa
    .rwa[getD_set_ne true ae]at hunk
   .rw[Rh _ _ E];exact h3.2.2
def pick(l:List Oper):List Nat->List Oper
 |[]=>[]
 |i::is=>l.getD i default::pick l is
def rT(ops:Array Oper):List Nat->Array Bool->Bool
 |[],h=>(Region.ready .any ops h).isEmpty
 |k::D,h=>Region.ready .any ops h==[k]&&(ops[k]?).isSome&&rT ops D (h.setIfInBounds k true)
def qW{k:Nat}{D:List Nat}(h:l[k]?=some o):pick l (k::D)=o::pick l D:=by rw[pick,cB,h];rfl
def Er(hl:ops=l.toArray):∀(E:List Nat)(D:Array Bool)(a:Act)(w:World),(∀k∈E,fin.contains k=true)->rT ops E D=true->wpList P ops Q (pick l E) a w->tg P ops Q S fin E.length D a w
 |[],_,_,_,_,I,h=>⟨by simpa[rT]using I,h⟩
 |k::E,D,a,w,hz,I,h=>by
  simp only[rT,fY,oq,py]at I;obtain⟨⟨hr,o,J⟩,K⟩:=I;have L:l[k]?=some o:=by rw[hl]at J;simpa using J
  rw[qW L]at h;refine⟨λe=>(by rw[hr]at e;cases e),λi hi=>?_⟩;rw[hr]at hi;obtain rfl:i=k:=by simpa using hi
  have F:=hz i fR;have ih:=λM O=>Er hl E (D.setIfInBounds i true) M O (λk hk=>hz k (ig _ hk)) K;unfold wpOp;simp only[J];unfold wpList at h;split at h
  .rename_i hw;rw[cR hw];exact h.imp (sE λM O h'=>⟨λx=>(by rw[F]at x;cases x),ih M O h'⟩) id
  .rename_i hw;rw[cK hw];exact⟨λx=>(by rw[F]at x;cases x),ih _ _ h⟩
def Ep(J:ops=l.toArray):∀(F:List Nat)(D:Array Bool)(a:Act)(w:World),rT ops (F++fin) D=true->oT P ops Q S F.length (pick l (F++fin)) a w->tg P ops Q S fin (F++fin).length D a w
 |[],D,a,w,I,h=>Er J fin D a w (λk hk=>by simpa using hk) I h
 |k::ks,D,a,w,I,h=>by
  simp only[ey,rT,fY,oq,py]at I;obtain⟨⟨hr,o,K⟩,L⟩:=I;have M:l[k]?=some o:=by rw[J]at K;simpa using K
  rw[ey,qW M]at h;refine⟨λe=>(by rw[hr]at e;cases e),λi hi=>?_⟩;rw[hr]at hi;obtain rfl:i=k:=by simpa using hi
  have ih:=λO w'=>Ep J ks (D.setIfInBounds i true) O w' L;unfold wpOp;simp only[K];rw[dt]at h;unfold oT wpList at h;split at h
  .rename_i hw;rw[cR hw];exact h.imp (λh'=>sE (λO w' E=>⟨λ_=>E.1,ih O w' E.2⟩) h') id
  .rename_i hw;rw[cK hw];exact⟨λ_=>h.1,ih _ _ h.2⟩
def JU(ops:Array Oper)(D fin:List Nat):List Nat->Array Bool->Bool
 |[],h=>rT ops D h
 |k::E,h=>(Region.ready .any ops h).contains k&&Region.free .any ops h k&&((ops[k]?).map still).getD false&&(fin.all λj=>QX ops ops.size j k)&&JU ops D fin E (h.setIfInBounds k true)
def yy(M:ops=l.toArray)(hs:Region.noSelect ops=true)(hQ:∀d v c a w,Q (.panic c) (a.put d v) w->Q (.panic c) a w)(E:List Nat)(hS:S w):∀(is:List Nat)(D:Array Bool)(a:Act),nA ops D ->
  JU ops (E++fin) fin is D=true->wpQuiet P ops (λW=>∃x:Wd S,W=x.w) (λO=>oT P ops Q S E.length (pick l (E++fin)) O w) (pick l is) a->tg P ops Q S fin (is++(E++fin)).length D a w
 |[],D,a,_,L,h=>Ep M E D a w L h
 |k::ks,D,a,hc,L,h=>by
  simp only[JU,fY,oE]at L;obtain⟨⟨⟨⟨J,hf⟩,F⟩,aa⟩,ab⟩:=L;have J:k∈Region.ready .any ops D:=by simpa using J
  obtain⟨_,o,I,_⟩:=vY.1 J;have ac:l[k]?=some o:=by rw[M]at I;simpa using I
  rw[I]at F;have F:=F;rw[qW ac]at h;have hq:qOp P ops (λW=>∃x:Wd S,W=x.w) k (wpQuiet P ops (λW=>∃x:Wd S,W=x.w) (λO=>oT P ops Q S E.length (pick l (E++fin)) O w) (pick l ks)) a:=by unfold qOp;simp only[I];exact h
  obtain⟨v,hy,hK⟩:=yieldsIn_of_qOp I hq;have ad:YieldsIf P ops S o v a:=by
   obtain⟨hw,hv⟩|hy:=hy
   .refine .inl ⟨hw,λW hW=>?_⟩;have K:=hv W ⟨⟨W,hW⟩,rfl⟩;unfold Oper.quietAt at K;generalize hR:(execOp a.eval o).run P W=r at K;cases r with
    |halt x w'=>cases K
    |ok n w' =>
     obtain⟨u,rfl⟩:=sM F hR;simp only[Oper.quietUpon]at K;obtain⟨rfl,rfl⟩:=K;rfl
   .exact .inr hy
  exact tg.first I aa (zZ hs) (hQ o.dst v) _ D a w hc (Jm I hf) J ad hS (yy M hs hQ E hS ks (D.setIfInBounds k true) (a.put o.dst v) (hc.set J) ab hK)
def pT{id:Nat}(S:World->Prop)(is Ha fin:List Nat)(E:P.follows .mixedOrders=true)(F:(is++(Ha++fin)).length=l.length)(D:(Region.noSelect l.toArray&&JU l.toArray (Ha++fin) fin is (Array.replicate l.length false))=true)(I:∀d v c a w,Q (.panic c) (a.put d v) w->Q (.panic c) a w)(J:S w.drew)(h:wpQuiet P l.toArray (λW=>∃x:Wd S,W=x.w) (λK=>oT P l.toArray Q S Ha.length (pick l (Ha++fin)) K w.drew) (pick l is) a):(Code.region id l.toArray true).wp P Q a w:=by
 rw[fY]at D;refine Q1 E (tg.any (S:=S) (fin:=fin) _ _ _ _ ?_);have:=yy (ops:=l.toArray) rfl D.1 I Ha J is (Array.replicate l.length false) a (nA.new _ _) D.2 h;rw[F]at this;simpa using this
end
section
variable{id:Nat}
def Cg(S:World->Prop)(is Ha fin:List Nat)(D:S w.drew)(h:wpQuiet P l.toArray (λW=>∃x:Wd S,W=x.w) (λE=>oT P l.toArray Q S Ha.length (pick l (Ha++fin)) E w.drew) (pick l is) a)(F:P.follows .mixedOrders=true:=by kernel_rfl)(I:(is++(Ha++fin)).length=l.length:=by rfl)(J:(Region.noSelect l.toArray&&JU l.toArray (Ha++fin) fin is (Array.replicate l.length false))=true:=by kernel_rfl)(K:∀d v c a w,Q (.panic c) (a.put d v) w->Q (.panic c) a w:=by intro d _ _ _ _ h;cases d <;> exact h):(Code.region id l.toArray true).wp P Q a w:=pT S is Ha fin F I J K D h
end
section
variable{fin:List Nat}
def ue(P:Program)(ops:Array Oper)(Q:Exit->Act->World->Prop)(S:World->Prop)(K:Act->World->Prop):List Oper->Act->World->Prop
 |[],a,w=>K a w
 |o::h,a,w=>wpList P ops (Qn Q λD w'=>S w'/\ue P ops Q S K h D w') [o] a w
def Na(ops:Array Oper)(fin D:List Nat):List Nat->Array Bool->Bool
 |[],h=>JU ops fin fin D h
 |k::E,h=>Region.ready .any ops h==[k]&&(ops[k]?).isSome&&Na ops fin D E (h.setIfInBounds k true)
def Pn(ops:Array Oper)(fin D E:List Nat):List Nat->Array Bool->Bool
 |[],h=>Na ops fin D E h
 |k::F,h=>(Region.ready .any ops h).contains k&&Region.free .any ops h k&&((ops[k]?).map still).getD false&&(fin.all λj=>QX ops ops.size j k)&&Pn ops fin D E F (h.setIfInBounds k true)
def Eo(K:ops=l.toArray)(hs:Region.noSelect ops=true)(hQ:∀d v c a w,Q (.panic c) (a.put d v) w->Q (.panic c) a w)(F:List Nat):∀(L:List Nat)(D:Array Bool)(a:Act)(w:World),nA ops D->S w->Na ops fin F L D=true ->
  ue P ops Q S (λI w'=>wpQuiet P ops (λW=>∃x:Wd S,W=x.w) (λa2=>wpList P ops Q (pick l fin) a2 w') (pick l F) I) (pick l L) a w->tg P ops Q S fin (L++(F++fin)).length D a w
 |[],D,a,w,M,hS,J,h=>yy (fin:=fin) K hs hQ [] hS F D a M J h
 |k::ks,D,a,w,M,hS,J,h=>by
  simp only[Na,fY,oq,py]at J;obtain⟨⟨hr,o,O⟩,aa⟩:=J;have ab:l[k]?=some o:=by rw[K]at O;simpa using O
  rw[qW ab]at h;refine⟨λe=>(by rw[hr]at e;cases e),λi hi=>?_⟩;have ac:=M.set hi;rw[hr]at hi;obtain rfl:i=k:=by simpa using hi
  have ih:=λI w' ad=>Eo K hs hQ F ks (D.setIfInBounds i true) I w' ac ad aa;unfold wpOp;simp only[O];unfold ue wpList at h;split at h
  .rename_i hw;rw[cR hw];exact h.imp (λh'=>sE (λI w' E=>⟨λ_=>E.1,ih I w' E.1 E.2⟩) h') id
  .rename_i hw;rw[cK hw];exact⟨λ_=>h.1,ih _ _ h.1 h.2⟩
def El(hl:ops=l.toArray)(hs:Region.noSelect ops=true)(hQ:∀d v c a w,Q (.panic c) (a.put d v) w->Q (.panic c) a w)(I J:List Nat)(hS:S w){K:Act->Prop}(hK:∀D a,nA ops D->Na ops fin I J D=true->K a->tg P ops Q S fin (J++(I++fin)).length D a w):∀(is:List Nat)(D:Array Bool)(a:Act),nA ops D ->
  Pn ops fin I J is D=true->wpQuiet P ops (λW=>∃x:Wd S,W=x.w) K (pick l is) a->tg P ops Q S fin (is++(J++(I++fin))).length D a w
 |[],D,a,O,hB,h=>hK D a O hB h
 |k::ks,D,a,O,hB,h=>by
  simp only[Pn,fY,oE]at hB;obtain⟨⟨⟨⟨L,hf⟩,E⟩,aa⟩,ab⟩:=hB;have L:k∈Region.ready .any ops D:=by simpa using L
  obtain⟨_,o,F,_⟩:=vY.1 L;have ac:l[k]?=some o:=by rw[hl]at F;simpa using F
  rw[F]at E;have E:=E;rw[qW ac]at h;have hq:qOp P ops (λW=>∃x:Wd S,W=x.w) k (wpQuiet P ops (λW=>∃x:Wd S,W=x.w) K (pick l ks)) a:=by unfold qOp;simp only[F];exact h
  obtain⟨v,hy,hk⟩:=yieldsIn_of_qOp F hq;have ad:YieldsIf P ops S o v a:=by
   obtain⟨hw,hv⟩|hy:=hy
   .refine .inl ⟨hw,λW hW=>?_⟩;have M:=hv W ⟨⟨W,hW⟩,rfl⟩;unfold Oper.quietAt at M;generalize hR:(execOp a.eval o).run P W=r at M;cases r with
    |halt x w'=>cases M
    |ok n w' =>
     obtain⟨u,rfl⟩:=sM E hR;simp only[Oper.quietUpon]at M;obtain⟨rfl,rfl⟩:=M;rfl
   .exact .inr hy
  exact tg.first F aa (zZ hs) (hQ o.dst v) _ D a w O (Jm F hf) L ad hS (El hl hs hQ I J hS hK ks (D.setIfInBounds k true) (a.put o.dst v) (O.set L) ab hk)
def xZ{id:Nat}(S:World->Prop)(is ms js fin:List Nat)(K:P.follows .mixedOrders=true)(L:(is++(ms++(js++fin))).length=l.length)(E:(Region.noSelect l.toArray&&Pn l.toArray fin js ms is (Array.replicate l.length false))=true)(I:∀d v c a w,Q (.panic c) (a.put d v) w->Q (.panic c) a w)(J:S w.drew)(h:wpQuiet P l.toArray (λW=>∃x:Wd S,W=x.w) (λM=>ue P l.toArray Q S (λO w'=>wpQuiet P l.toArray (λW=>∃x:Wd S,W=x.w) (λa2=>wpList P l.toArray Q (pick l fin) a2 w') (pick l js) O) (pick l ms) M w.drew) (pick l is) a):(Code.region id l.toArray true).wp P Q a w:=by
 rw[fY]at E;refine Q1 K (tg.any (S:=S) (fin:=fin) _ _ _ _ ?_);have F:=E.1;have:=El (ops:=l.toArray) rfl F I js ms J (λD a hc E h=>Eo rfl F I js ms D a _ hc J E h) is (Array.replicate l.length false) a (nA.new _ _) E.2 h;rw[L]at this;simpa using this
def ub{D:List Oper}(h:wpList P ops (Qn Q λE w'=>S w'/\ue P ops Q S K D E w') [o] a w):ue P ops Q S K (o::D) a w:=h
def yb(h:K a w):ue P ops Q S K [] a w:=h
end
end rn
namespace chk
open Go RowKit
variable{F:Fence}{n:Nat}{P:Program}
def Rq(B:Nat)(G X:World->Prop)(W:World):Exit->Act->World->Prop
 |.normal,_,h=>KeepsFrom B W h/\G h
 |.ret,_,h=>KeepsFrom B W h/\X h
 |.exit _,_,_=>False
 |.goto _,_,_=>False
 |.panic _,_,_=>False
 |.outgrown,_,_=>False
def Dt(B:Nat)(I:World->Prop):Prop:=∀(W:World)(l:Nat)(o h:Obj),B<=l->W.heap[l]?=some o->o.isCells=false->I W->I (W.putObj l h)
def QY{α:Type}(F:Fence)(n:Nat)(P:Program)(g:Nat)(lb:Array Value)(J:α->Array Value)(B:Nat)(I:World->Prop)(Y G:α->World->Prop)(X E:World->Prop):Prop:=
 ∀(l:Nat)(D L:World->Prop),(∀W h,KeepsFrom B W h->D W->D h) ->
  (∀x K,Y x K->D K->YieldAt F (n-1) P l (J x) K λe h=>(e=.returned (.bool true)/\G x h/\D h)\/(e=.returned (.bool false)/\X h/\L h)) ->
  ∀W,I W->D W->CallsIn F n P g (#[.func (.yield l) #[] #[]]++lb) W λe h=>(∃v,e=.returned v)/\((E h/\D h)\/(X h/\L h))
def uV{α:Type}{g:Operand}{ps:Array Tmp}{assign body:Code}{Q:Exit->Act->World->Prop}{a:Act}{w:World}(am:F.round=none)(h1:1<=n){gf:Nat}{lb:Array Value}(hg:a.eval g=.func (.func gf) #[] lb)(an:F.fn gf)(eg:∀args w,(callFunc gf args).run P w=.ok (.enter gf args) w){O:α->Array Value}(ap:∀x,(O x).size=ps.size)(I:World->Prop)(Y G:α->World->Prop)(X E:World->Prop)(aj:QY F (n-1) P gf lb O w.heap.size I Y G X E)(hI:∀o o2,I ((w.alloc o).alloc o2))(hY:∀x,Dt w.heap.size (Y x))(hG:∀x,Dt w.heap.size (G x))(hX:Dt w.heap.size X)(hE:Dt w.heap.size E)(a₁:α->Act)(ab:∀(l:Nat)(x:α)(W:World)(K:Act->World->Prop),K (a₁ x) W ->
   assign.wpIn (F.inRound l) (n-1-1) P (Exit.then K (λ_ _ _=>False)) {tmps:=(ps.zip (O x)).foldl (λt (p,v)=>t.setIfInBounds p v) a.tmps,defers:=[]} W)(ad:∀(l:Nat)(x:α)(W:World),w.heap.size<=l->Y x W->body.wpIn (F.inRound l) (n-1-1) P (Rq w.heap.size (G x) X W) (a₁ x) W)(ae:∀(D:Nat)(W:World),w.heap.size<=D->E W->W.heap[D]?=some (.deferred (some []))->Q .normal {a with defers:={target:=.collected D,args:=#[]}::a.defers} W)(af:∀(D:Nat)(W:World),w.heap.size<=D->X W->W.heap[D]?=some (.deferred (some []))->(Code.ret).wpIn F n P Q {a with defers:={target:=.collected D,args:=#[]}::a.defers} W):
  (Code.rangeFunc g ps assign body).wpIn F n P Q a w:=by
 refine wpIn_rangeFunc ?_;intro fn aq;rw[am];obtain⟨J,L⟩:∃J:LoopState->Option Code->Loop,J=λst pe=>{state:=st,pending:=pe,fn,tmps:=a.tmps,params:=ps,assign,body,defers:=w.heap.size}:=⟨_,rfl⟩
 obtain⟨W1,ac⟩:∃W1,(w.alloc (.deferred (some []))).alloc (.loop (J .ready none))=W1:=⟨_,rfl⟩
 have ar:W1.heap[w.heap.size+1]?=some (.loop (J .ready none)):=by rw[<-ac];have:=World.alloc_heap_new (w.alloc (.deferred (some []))) (.loop (J .ready none));rwa[dk]at this
 have au:W1.heap[w.heap.size]?=some (.deferred (some [])):=by rw[<-ac];exact(gH _ _ _ (by simp)).trans (World.alloc_heap_new w _)
 have aw:I W1:=by rw[<-ac];exact hI _ _
 refine⟨w.heap.size+1,[{target:=.collected w.heap.size,args:=#[]}],W1,{target:=.fn (.func gf) lb,args:=#[.func (.yield (w.heap.size+1)) #[] #[]]},W1,gf,
  #[.func (.yield (w.heap.size+1)) #[] #[]]++lb,W1,?_,?_,?_,?_,λ_=>h1,?_⟩
 .rw[<-ac,L];exact run_enterLoop_outer _ _ _ _ _
 .simp only[resolve,hg];simp[go_sem]
 .intro f' ak;simp[Target.leads]at ak;subst ak;exact an
 .simp[invoke,go_sem,eg]
 .refine(aj (w.heap.size+1)
   (λW=>W.heap[w.heap.size+1]?=some (.loop (J .ready none))/\W.heap[w.heap.size]?=some (.deferred (some [])))
   (λW=>W.heap[w.heap.size+1]?=some (.loop (J .done (some .ret)))/\W.heap[w.heap.size]?=some (.deferred (some [])))
   (λW W' hk hb=>⟨hk.same _ _ (by omega) hb.1 rfl,hk.same _ _ (cE _) hb.2 rfl⟩)
   ?_ W1 aw ⟨ar,au⟩).mono ?_
  .rintro x W hi ⟨hl,hk⟩;have ax:=(dS.1 hl).1;have hy:=run_yield (P:=P) (args:=O x) hl (L▸ap x);rw[L]at hy;refine⟨fn,_,assign,body,hy,roundIn_of_wpIn aq (ab _ x W _ ?_)⟩;clear hy;refine⟨_,run_beginRound hl (by rw[L]),?_⟩;have ay:(W.putObj (w.heap.size+1) (.loop {J .ready none with state:=.busy})).heap[w.heap.size+1]?=some (.loop {J .ready none with state:=.busy}):=World.putObj_heap_same ax;have az:(W.putObj (w.heap.size+1) (.loop {J .ready none with state:=.busy})).heap[w.heap.size]?=some (.deferred (some [])):=(World.putObj_heap_other (by omega)).trans hk;refine wpIn_mono (ad _ x _ (by omega) (hY x W _ _ _ (by omega) hl rfl hi)) ?_;have al:∀(h:Option Code)(W3:World),KeepsFrom w.heap.size (W.putObj (w.heap.size+1) (.loop {J .ready none with state:=.busy})) W3 ->
     (Instr.endRound (w.heap.size+1) h).run P W3=.ok (.bool h.isNone) (W3.putObj (w.heap.size+1) (.loop (J (if h.isNone then .ready else .done) h))) /\
     W3.heap[w.heap.size+1]?=some (.loop {J .ready none with state:=.busy}) /\
     (W3.putObj (w.heap.size+1) (.loop (J (if h.isNone then .ready else .done) h))).heap[w.heap.size+1]?=some (.loop (J (if h.isNone then .ready else .done) h)) /\
     (W3.putObj (w.heap.size+1) (.loop (J (if h.isNone then .ready else .done) h))).heap[w.heap.size]?=some (.deferred (some [])):=λh W3 aa=>by
    have M:=aa.same _ _ (by omega) ay rfl;have:=run_endRound (P:=P) h M;rw[L]at this|-;exact⟨this,by rwa[L]at M,World.putObj_heap_same (dS.1 M).1,(World.putObj_heap_other (by omega)).trans (aa.same _ _ (cE _) az rfl)⟩
   rintro e a3 W3 hp;cases e with
   |normal=>
    obtain⟨aa,ag⟩:=hp;obtain⟨hr,M,ah,ai⟩:=al none W3 aa;exact⟨_,_,hr,.inl ⟨rfl,hG x W3 _ _ _ (by omega) M rfl ag,ah,ai⟩⟩
   |ret=>
    obtain⟨aa,ag⟩:=hp;obtain⟨hr,M,ah,ai⟩:=al (some .ret) W3 aa;exact⟨_,_,hr,.inr ⟨rfl,hX W3 _ _ _ (by omega) M rfl ag,ah,ai⟩⟩
   |exit id=>exact hp.elim
   |goto t=>exact hp.elim
   |panic ch=>exact hp.elim
   |outgrown=>exact hp.elim
  .rintro e W2 ⟨⟨v,rfl⟩,(⟨hi,hl,hk⟩|⟨hi,hl,hk⟩)⟩
   .exact⟨none,_,by have:=run_endLoop (P:=P) hl (by rw[L];simp);rwa[L]at this,ae _ _ (cE _) (hE W2 _ _ _ (by omega) hl rfl hi) ((World.putObj_heap_other (by omega)).trans hk)⟩
   .exact⟨some .ret,_,by have:=run_endLoop (P:=P) hl (by rw[L];simp);rwa[L]at this,af _ _ (cE _) (hX W2 _ _ _ (by omega) hl rfl hi) ((World.putObj_heap_other (by omega)).trans hk)⟩
end chk
end Go.Proofs.YtfpkdfeakanlpaaGreatDoor
