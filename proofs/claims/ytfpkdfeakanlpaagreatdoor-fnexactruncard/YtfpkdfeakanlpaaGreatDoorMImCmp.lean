import Derived.Laws.EntriesVeiled
import Derived.WalkLawsBesides
import Derived.ChangeAlike
import Derived.Test.YtfpkdfeakanlpaaGreatDoorMImForN
set_option linter.all false
set_option maxRecDepth 100000
set_option maxHeartbeats 8000000
namespace Go.Proofs.YtfpkdfeakanlpaaGreatDoor
open Go.Proofs.Tryz
namespace im
open RowKit bts pg rn Go.ChangeShapes Go.WideShapes Go.ChangeAt
variable{a b op:Int}{w:World}
def AI(h:¬a.tmod b=0):decide (a.tmod b<0)=decide (a<0):=by
 by_cases D:a<0
 .have E:a.tmod b<=0:=by
   have:=Int.tmod_nonneg (a:=-a) b cM;rw[Int.neg_tmod]at this;omega
  rw[fM D,fM cM]
 .have:=Int.tmod_nonneg (a:=a) b cM;rw[fj D,fj cM]
def Ef(a b:Int)(D:¬b=0)(w:World):
  zC 205 #[zI a,zI b] w λe h=>e=.returned (.tuple #[zI (fl a b),zI 0])/\h=w.drew:=by
 go_enter func205,ntmps205;go_wp2;go_region;all_goals go_wp2
 all_goals go_ret2
 .exact⟨RN (UJ ‹_›),rfl⟩
 .exact⟨RN (UI (AI ‹¬a.tmod b=0›▸‹_/\_›)),rfl⟩
 .exact⟨RN (UH (AI ‹¬a.tmod b=0›▸‹_\/_›)),rfl⟩
def AQ(a:Int)(w:World):
  zC 205 #[zI a,zI 0] w λe h=>e=.returned (.tuple #[zI 0,zI 5])/\h=w:=by
 go_enter func205,ntmps205;go_wp2;go_ret2;exact⟨rfl,rfl⟩
def Ph(a b:Int)(D:¬b=0)(w:World):
  zC 206 #[zI a,zI b] w λe h=>e=.returned (.tuple #[zI (wrap64 (a-wrap64 (b*fl a b))),zI 0])/\h=w.drew:=by
 go_enter func206,ntmps206;go_wp2_with(go_at_call 205;refine(Ef _ _ D _).mono ?_;rintro e h ⟨rfl,rfl⟩)
 go_ret2;exact⟨rfl,rfl⟩
def Mt(a:Int)(w:World):
  zC 206 #[zI a,zI 0] w λe h=>e=.returned (.tuple #[zI 0,zI 5])/\h=w:=by
 go_enter func206,ntmps206;go_wp2_with(go_at_call 205;refine(AQ _ _).mono ?_;rintro e h ⟨rfl,rfl⟩)
 go_ret2;exact⟨rfl,rfl⟩
def GH(w:World):(Instr.build 270 #[(0,.func (.func 202) #[] #[]),(1,.func (.func 203) #[] #[]),(2,.func (.func 204) #[] #[]),(3,.func (.func 205) #[] #[]),(4,.func (.func 206) #[] #[]),(6,.func (.func 207) #[] #[]),(7,.func (.func 208) #[] #[]),(8,.func (.func 209) #[] #[]),(9,.func (.func 210) #[] #[]),(10,.func (.func 211) #[] #[]),(11,.func (.func 212) #[] #[])]).run Tryz.prog w=.ok (.agg #[.func (.func 202) #[] #[],.func (.func 203) #[] #[],.func (.func 204) #[] #[],.func (.func 205) #[] #[],.func (.func 206) #[] #[],.nilFunc,.func (.func 207) #[] #[],.func (.func 208) #[] #[],.func (.func 209) #[] #[],.func (.func 210) #[] #[],.func (.func 211) #[] #[],.func (.func 212) #[] #[]]) w:=gA
def oi(w:World):
  zC 196 #[] w λe h=>e=.returned (.agg #[.func (.func 202) #[] #[],.func (.func 203) #[] #[],.func (.func 204) #[] #[],.func (.func 205) #[] #[],.func (.func 206) #[] #[],.nilFunc,.func (.func 207) #[] #[],.func (.func 208) #[] #[],.func (.func 209) #[] #[],.func (.func 210) #[] #[],.func (.func 211) #[] #[],.func (.func 212) #[] #[]])/\∃cs,h=w.alloc (.cells cs 270):=by
 have D:=GH;go_enter func196,ntmps196;go_wp2;go_returns;exact⟨rfl,_,rfl⟩
def qg(f:Nat)(w:World):(binOp .eql 269 (.func (.func f) #[] #[]) .nilFunc).run Tryz.prog w=.ok (.bool false) w:=gA
def oj(w:World):(binOp .eql 269 .nilFunc .nilFunc).run Tryz.prog w=.ok (.bool true) w:=gA
def Sj(a b:Int)(w:World):
  zC 187 (zW 0 a b) w (zR w (.tuple #[zI (wrap64 (a+b)),zI 0])):=by
 have h:=qg;have D:=oj;go_enter lB,kD;go_wp2_with(first|(go_at_call 196;refine(oi _).mono ?_;rintro e E ⟨rfl,o,rfl⟩)|go_in)
 go_returns;exact⟨rfl,by repeat(first|exact cN _ _|apply eb|(refine jK ?_ dC _))⟩
def Si(a b:Int)(w:World):
  zC 187 (zW 1 a b) w (zR w (.tuple #[zI (wrap64 (a-b)),zI 0])):=by
 have h:=qg;have D:=oj;go_enter lB,kD;go_wp2_with(first|(go_at_call 196;refine(oi _).mono ?_;rintro e E ⟨rfl,o,rfl⟩)|go_in)
 go_returns;exact⟨rfl,by repeat(first|exact cN _ _|apply eb|(refine jK ?_ dC _))⟩
def Sh(a b:Int)(w:World):
  zC 187 (zW 2 a b) w (zR w (.tuple #[zI (wrap64 (a*b)),zI 0])):=by
 have h:=qg;have D:=oj;go_enter lB,kD;go_wp2_with(first|(go_at_call 196;refine(oi _).mono ?_;rintro e E ⟨rfl,o,rfl⟩)|go_in)
 go_returns;exact⟨rfl,by repeat(first|exact cN _ _|apply eb|(refine jK ?_ dC _))⟩
def Sg(a b:Int)(h:¬b=0)(w:World):
  zC 187 (zW 3 a b) w (zR w (.tuple #[zI (fl a b),zI 0])):=by
 have E:=qg;have F:=oj;go_enter lB,kD;go_wp2_with(first|(go_at_call 196;refine(oi _).mono ?_;rintro e D ⟨rfl,o,rfl⟩)|(go_at_call 205;refine(Ef _ _ h _).mono ?_;rintro e D ⟨rfl,rfl⟩)|go_in)
 go_returns;exact⟨rfl,by repeat(first|exact cN _ _|apply eb|(refine jK ?_ dC _))⟩
def PI(a:Int)(w:World):
  zC 187 (zW 3 a 0) w (zR w (.tuple #[zI (0),zI 5])):=by
 have D:=qg;have E:=oj;go_enter lB,kD;go_wp2_with(first|(go_at_call 196;refine(oi _).mono ?_;rintro e h ⟨rfl,o,rfl⟩)|(go_at_call 205;refine(AQ _ _).mono ?_;rintro e h ⟨rfl,rfl⟩)|go_in)
 go_returns;exact⟨rfl,by repeat(first|exact cN _ _|apply eb|(refine jK ?_ dC _))⟩
def Sf(a b:Int)(h:¬b=0)(w:World):
  zC 187 (zW 4 a b) w (zR w (.tuple #[zI (wrap64 (a-wrap64 (b*fl a b))),zI 0])):=by
 have E:=qg;have F:=oj;go_enter lB,kD;go_wp2_with(first|(go_at_call 196;refine(oi _).mono ?_;rintro e D ⟨rfl,o,rfl⟩)|(go_at_call 206;refine(Ph _ _ h _).mono ?_;rintro e D ⟨rfl,rfl⟩)|go_in)
 go_returns;exact⟨rfl,by repeat(first|exact cN _ _|apply eb|(refine jK ?_ dC _))⟩
def PH(a:Int)(w:World):
  zC 187 (zW 4 a 0) w (zR w (.tuple #[zI (0),zI 5])):=by
 have D:=qg;have E:=oj;go_enter lB,kD;go_wp2_with(first|(go_at_call 196;refine(oi _).mono ?_;rintro e h ⟨rfl,o,rfl⟩)|(go_at_call 206;refine(Mt _ _).mono ?_;rintro e h ⟨rfl,rfl⟩)|go_in)
 go_returns;exact⟨rfl,by repeat(first|exact cN _ _|apply eb|(refine jK ?_ dC _))⟩
def Se(a b:Int)(w:World):
  zC 187 (zW 8 a b) w (zR w (.tuple #[zI (Bv (decide (a<b))),zI 0])):=by
 have D:=qg;have E:=oj;go_enter lB,kD;go_wp2_with(first|(go_at_call 196;refine(oi _).mono ?_;rintro e h ⟨rfl,o,rfl⟩)|(go_at_call 176;refine(im.qS _).mono ?_;rintro e h ⟨rfl,rfl⟩)|go_in)
 all_goals go_returns
 all_goals exact⟨rfl,by repeat(first|exact cN _ _|apply eb|(refine jK ?_ dC _))⟩
def Sd(a b:Int)(w:World):
  zC 187 (zW 9 a b) w (zR w (.tuple #[zI (Bv (decide (a<=b))),zI 0])):=by
 have D:=qg;have E:=oj;go_enter lB,kD;go_wp2_with(first|(go_at_call 196;refine(oi _).mono ?_;rintro e h ⟨rfl,o,rfl⟩)|(go_at_call 176;refine(im.qS _).mono ?_;rintro e h ⟨rfl,rfl⟩)|go_in)
 all_goals go_returns
 all_goals exact⟨rfl,by repeat(first|exact cN _ _|apply eb|(refine jK ?_ dC _))⟩
def PK(a b:Int)(w:World):
  zC 187 (zW 10 a b) w (zR w (.tuple #[zI (Bv (decide (b<a))),zI 0])):=by
 have D:=qg;have E:=oj;go_enter lB,kD;go_wp2_with(first|(go_at_call 196;refine(oi _).mono ?_;rintro e h ⟨rfl,o,rfl⟩)|(go_at_call 176;refine(im.qS _).mono ?_;rintro e h ⟨rfl,rfl⟩)|go_in)
 all_goals go_returns
 all_goals exact⟨rfl,by repeat(first|exact cN _ _|apply eb|(refine jK ?_ dC _))⟩
def PJ(a b:Int)(w:World):
  zC 187 (zW 11 a b) w (zR w (.tuple #[zI (Bv (decide (b<=a))),zI 0])):=by
 have D:=qg;have E:=oj;go_enter lB,kD;go_wp2_with(first|(go_at_call 196;refine(oi _).mono ?_;rintro e h ⟨rfl,o,rfl⟩)|(go_at_call 176;refine(im.qS _).mono ?_;rintro e h ⟨rfl,rfl⟩)|go_in)
 all_goals go_returns
 all_goals exact⟨rfl,by repeat(first|exact cN _ _|apply eb|(refine jK ?_ dC _))⟩
def Am(h:0<=op/\op<=4)(w:World):
  zC 187 (zW op a b) w (zR w (.tuple #[zI ((mZ op a b).getD 0),zI (if (mZ op a b).isSome then 0 else 5)])):=by
 have E:op=0\/op=1\/op=2\/op=3\/op=4:=cM;obtain rfl|rfl|rfl|rfl|rfl:=E
 .have:=Sj a b w;rw[lG]at this;exact this
 .have:=Si a b w;rw[lG]at this;exact this
 .have:=Sh a b w;rw[lG]at this;exact this
 .by_cases D:b=0
  .subst D;exact PI a w
  .have:=Sg a b D w;rw[Je D]at this;rw[show mZ 3 a b=some (wrap (a.fdiv b)) by unfold mZ;simp[D]];exact this
 .by_cases D:b=0
  .subst D;exact PH a w
  .have:=Sf a b D w;rw[Je D,lG,lG,DH]at this;rw[show mZ 4 a b=some (wrap (a-b*wrap (a.fdiv b))) by unfold mZ;simp[D]];exact this
def Ak(h:8<=op/\op<=11)(w:World):
  zC 187 (zW op a b) w λe D=>e=.returned (.tuple #[zI (Bv (holds op (decide (a<b)) (decide (b<a)))),zI 0])/\zB w D:=by
 have E:op=8\/op=9\/op=10\/op=11:=cM;obtain rfl|rfl|rfl|rfl:=E
 .exact Se a b w
 .have:=Sd a b w;rw[xW (p:=a<=b) (q:=b<a) cM]at this;exact this
 .exact PK a b w
 .have:=PJ a b w;rw[xW (p:=b<=a) (q:=a<b) cM]at this;exact this
def Pz(a:Int)(w:World):zC 200 #[zI a] w λe h=>e=.returned (.bool false)/\h=w:=by go_enter func200,ntmps200;go_wp2;go_returns;exact⟨rfl,rfl⟩
def Py(s:ByteArray)(w:World):zC 201 #[.string s] w λe h=>e=.returned (.bool false)/\h=w:=by go_enter func201,ntmps201;go_wp2;go_returns;exact⟨rfl,rfl⟩
def Qj(a b:Int)(w:World):zC 194 #[zI a,zI b] w λe I=>e=.returned (zI (if a<b then -1 else if b<a then 1 else 0))/\I=w:=by
 have h:=cO Pz;by_cases D:a<b
 .rw[cR D];go_enter Tm,Q5;go_wp2_with(go_at_call 200;refine cA (h _ _) ?_;rintro e E ⟨rfl,rfl⟩)
  go_returns;exact⟨rfl,rfl⟩
 .rw[cK D];by_cases F:b<a
  .rw[cR F];go_enter Tm,Q5;go_wp2_with(go_at_call 200;refine cA (h _ _) ?_;rintro e E ⟨rfl,rfl⟩)
   go_returns;exact⟨rfl,rfl⟩
  .rw[cK F];go_enter Tm,Q5;go_wp2_with(go_at_call 200;refine cA (h _ _) ?_;rintro e E ⟨rfl,rfl⟩)
   go_returns;exact⟨rfl,rfl⟩
def Qi(x y:List UInt8)(w:World):zC 195 #[.string ⟨x.toArray⟩,.string ⟨y.toArray⟩] w λe M=>e=.returned (zI (if sD x y=true then -1 else if sD y x=true then 1 else 0))/\M=w:=by
 have O:=cO Py;obtain⟨I,h⟩:∃s:ByteArray,s=⟨x.toArray⟩:=⟨_,rfl⟩
 obtain⟨J,D⟩:∃s:ByteArray,s=⟨y.toArray⟩:=⟨_,rfl⟩
 have E:I.toList=x:=by rw[h,iP]
 have F:J.toList=y:=by rw[D,iP]
 have l1:Op.bytesLess I.toList J.toList=sD x y:=by rw[Cx,E,F]
 have L:sD y x=(!(sD x y || I.toList==J.toList)):=by rw[E,F];exact(xH x y).symm
 rw[<-h,<-D,L];clear L h D E F;obtain⟨q1,K⟩:∃q,sD x y=q:=⟨_,rfl⟩
 obtain⟨q2,h2⟩:∃q,(I.toList==J.toList)=q:=⟨_,rfl⟩
 rw[K]at l1;rw[K,h2];clear K;cases q1<;>cases q2;all_goals
  go_enter func195,ntmps195;go_wp2_with(go_at_call 201;refine cA (O _ _) ?_;rintro e w1 ⟨rfl,rfl⟩)
  go_returns;exact⟨rfl,rfl⟩
end im
end Go.Proofs.YtfpkdfeakanlpaaGreatDoor
