import Derived.Test.YtfpkdfeakanlpaaGreatDoorMPgEqB
set_option linter.all false
set_option maxRecDepth 100000
set_option maxHeartbeats 8000000
namespace Go.Proofs.YtfpkdfeakanlpaaGreatDoor
open Go.Proofs.Tryz
namespace chk
open RowKit bts pg
def DC(u:Nat):UInt8:=[45,99,105,115,51,117,112,111,110,116].getD u 0
def Lk(op:Nat):Int:=if op=20\/op=21 then 1 else lv op
def Ms(op:Nat)(h:op<28)(w:World):∃D E F cd:UInt8,(w.alloc (.cells #[.string {data:=#[99,45,48,49]},.string {data:=#[45,45,48,49]},.string {data:=#[45,45,48,49]},.string {data:=#[45,45,48,49]},.string {data:=#[105,45,48,49]},.string {data:=#[115,45,48,49]},.string {data:=#[115,45,49,48]},.string {data:=#[115,45,49,48]},.string {data:=#[117,45,48,49]},.string {data:=#[117,45,49,48]},.string {data:=#[112,45,48,49]},.string {data:=#[45,45,48,49]},.string {data:=#[45,45,51,49]},.string {data:=#[45,45,50,49]},.string {data:=#[45,45,51,48]},.string {data:=#[111,45,50,49]},.string {data:=#[45,45,49,49]},.string {data:=#[45,45,49,49]},.string {data:=#[116,45,48,48]},.string {data:=#[116,45,49,48]},.string {data:=#[116,45,49,49]},.string {data:=#[116,45,49,49]},.string {data:=#[110,110,49,48]},.string {data:=#[110,45,49,48]},.string {data:=#[110,45,48,48]},.string {data:=#[45,45,49,48]},.string {data:=#[51,116,48,48]},.string {data:=#[51,116,48,48]}] 9)).cell? ⟨w.heap.size,op,none⟩=some (.string {data:=#[D,E,F,cd]}) /\
  D=DC (sg op)/\E=DC (uS op)/\(F.toNat:Int)=48+tk op/\(cd.toNat:Int)=48+Lk op:=by
 have I:op=0\/op=1\/op=2\/op=3\/op=4\/op=5\/op=6\/op=7\/op=8\/op=9\/op=10\/op=11\/op=12\/op=13\/op=14\/op=15\/op=16\/op=17\/op=18\/op=19\/op=20\/op=21\/op=22\/op=23\/op=24\/op=25\/op=26\/op=27:=cM;simp only[World.cell?,dJ];clear h;obtain rfl|rfl|rfl|rfl|rfl|rfl|rfl|rfl|rfl|rfl|rfl|rfl|rfl|rfl|rfl|rfl|rfl|rfl|rfl|rfl|rfl|rfl|rfl|rfl|rfl|rfl|rfl|rfl:=I;all_goals exact⟨_,_,_,_,rfl,rfl,rfl,rfl,rfl⟩
def A7(op:Nat)(h:op<28)(w:World):
  zC 73 #[zI op] w (zR w (.tuple #[.string {data:=#[DC (sg op),DC (uS op)]},zI (tk op),zI (Lk op)])):=by
 obtain⟨E,F,I,J,D,rfl,rfl,L,M⟩:=Ms op h w;have O:=Iu op h;have hl:0<=Lk op/\Lk op<=1:=by unfold Lk;split<;>omega
 generalize tk op=t at L O|-;generalize Lk op=l at M hl|-;generalize DC (sg op)=E at D|-;generalize DC (uS op)=F at D|-;have K:Hid (({data:=#[E,F,I,J]}:ByteArray).extract 0 2={data:=#[E,F]}/\((I.toNat:Int)-48) % 256=t/\((J.toNat:Int)-48) % 256=l):=⟨rfl,cM,cM⟩
 clear O hl L M;go_enter func73,ntmps73;go_wp2;go_quiet (fail);go_wp2;go_returns;refine⟨?_,dQ (by go_grown) _⟩;show Ending.returned (.tuple #[.string (({data:=#[E,F,I,J]}:ByteArray).extract 0 2),zI (((I.toNat:Int)-48) % 256),zI (((J.toNat:Int)-48) % 256)])=_;rw[K.1,K.2.1,K.2.2]
def jx{a b:Bool}(h:a=b):Ending.returned (.bool a)=.returned (.bool b):=by rw[h]
def tT(u:Nat)(hu:u<10)(ak ap ac ad:Option Addr)(E ck np cp F cc I cd:Nat)(params h v:Int)(h0:0<=h)(h1:h<=200)(w:World):
  zC 74 #[.agg #[.slice ak E ck,.slice ap np cp],.agg #[zI params,zI h,.slice ac F cc,.slice ad I cd],.int .u8 (DC u).toNat,zI v] w
   (zR w (.bool (kn E np h F I u v))):=by
 have L:u=0\/u=1\/u=2\/u=3\/u=4\/u=5\/u=6\/u=7\/u=8\/u=9:=cM;clear hu;by_cases hv:v<0
 .have D:Hid (kn E np h F I u v=false):=by
   show _=_;unfold kn pA;rw[fj (show¬(if u=6 then(1:Int)else 0)<=v by split<;>omega)];rfl
  generalize kn E np h F I u v=b at D|-;generalize((DC u).toNat:Int)=ch;clear L;go_enter lD,kr;go_wp2;go_returns;exact⟨jx D.symm,by go_grown⟩
 .have O:(decide ((0:Int)<=v))=true:=iY;by_cases M:u=6
  .subst M;clear L;by_cases K:1<=v
   .have D:Hid (kn E np h F I 6 v=decide (v<(np:Int))):=by show _=_;unfold kn pA db;simp[K]
    rw[D];change Calls _ _ #[_,_,.int .u8 112,_] _ _;go_enter lD,kr;go_wp2;go_returns;exact⟨rfl,by go_grown⟩
   .have D:Hid (kn E np h F I 6 v=false):=by show _=_;unfold kn pA;simp[K]
    rw[D];change Calls _ _ #[_,_,.int .u8 112,_] _ _;go_enter lD,kr;go_wp2;go_returns;exact⟨rfl,by go_grown⟩
  .have D:Hid (kn E np h F I u v=decide (v<db E np h F I u)):=by show _=_;unfold kn pA;rw[cK M,O];rfl
   rw[D];clear D O;obtain rfl|rfl|rfl|rfl|rfl|rfl|rfl|rfl|rfl|rfl:=L
   .change Calls _ _ #[_,_,.int .u8 45,_] _ _;have D:Hid ((v==0)=decide (v<db E np h F I 0)):=by
     show _=_;unfold db;rw[cR rfl];by_cases e:v=0
     .subst e;rfl
     .rw[fj (show¬v<1 by omega)];simp[e]
    go_enter lD,kr;go_wp2;go_returns;exact⟨jx D,by go_grown⟩
   .change Calls _ _ #[_,_,.int .u8 99,_] _ λe J=>e=.returned (.bool (decide (v<(E:Int))))/\_;go_enter lD,kr;go_wp2;go_returns;exact⟨rfl,by go_grown⟩
   .change Calls _ _ #[_,_,.int .u8 105,_] _ λe J=>e=.returned (.bool (decide (v<10)))/\_;go_enter lD,kr;go_wp2;go_returns;exact⟨rfl,by go_grown⟩
   .change Calls _ _ #[_,_,.int .u8 115,_] _ λe J=>e=.returned (.bool (decide (v<h)))/\_;go_enter lD,kr;go_wp2;go_returns;exact⟨rfl,by go_grown⟩
   .change Calls _ _ #[_,_,.int .u8 51,_] _ λe J=>e=.returned (.bool (decide (v<h-2)))/\_;go_enter lD,kr;go_wp2;go_returns;exact⟨rfl,by go_grown⟩
   .change Calls _ _ #[_,_,.int .u8 117,_] _ λe J=>e=.returned (.bool (decide (v<(F:Int))))/\_;go_enter lD,kr;go_wp2;go_returns;exact⟨rfl,by go_grown⟩
   .exact absurd rfl M
   .change Calls _ _ #[_,_,.int .u8 111,_] _ λe J=>e=.returned (.bool (decide (v<12)))/\_;go_enter lD,kr;go_wp2;go_returns;exact⟨rfl,by go_grown⟩
   .change Calls _ _ #[_,_,.int .u8 110,_] _ λe J=>e=.returned (.bool (decide (v<51)))/\_;have D:Hid (decide (v<=50)=decide (v<51)):=by show _=_;by_cases e:v<=50<;>simp[e]<;>omega
    go_enter lD,kr;go_wp2;go_returns;exact⟨jx D,by go_grown⟩
   .change Calls _ _ #[_,_,.int .u8 116,_] _ λe J=>e=.returned (.bool (decide (v<(I:Int))))/\_;go_enter lD,kr;go_wp2;go_returns;exact⟨rfl,by go_grown⟩
def RH(op:Nat)(h:op<28):sg op<10/\uS op<10:=by
 revert op;decide
def wR(x:In)(N:Nat)(hx:Fw N x)(w:World):
  zC 76 #[.agg (zW x.op x.a x.b)] w (zR w (.tuple #[zI (jq x),zI (qK x)])):=by
 obtain⟨D,aa,e⟩:=sO hx.lo hx.hi;have F:=hx.VZ;have I:=hx.SZ;obtain⟨xo,a,b⟩:=x;simp only at e F I;subst e;have C:Hid (∀W,zB w W->zC 73 #[zI D] W (zR W (.tuple #[.string {data:=#[DC (sg D),DC (uS D)]},zI (tk D),zI (Lk D)]))):=λW _=>A7 D aa W;have ht:=Iu D aa;have hT:jq ⟨(D:Int),a,b⟩=if (D:Int)=22\/(D:Int)=23\/(D:Int)=24 then tk D+a else tk D:=rfl;have hL:qK ⟨(D:Int),a,b⟩=if (D:Int)=22 then b else lv D:=rfl;have hS:¬((D:Int)=20\/(D:Int)=21)->Lk D=lv D:=by intro h;unfold Lk;rw[cK cM]
 have M:((D:Int)=23\/(D:Int)=24\/(D:Int)=20\/(D:Int)=21)->lv D=0:=by intro h;have:D=23\/D=24\/D=20\/D=21:=cM;obtain rfl|rfl|rfl|rfl:=this<;>rfl
 have O:((D:Int)=20\/(D:Int)=21)->tk D=1:=λh=>Gn cM;rw[hT,hL];generalize tk D=t at*;generalize Lk D=ls at*;generalize lv D=l at*;generalize ac:({data:=#[DC (sg D),DC (uS D)]}:ByteArray)=cs at C;clear ac hT hL hx;by_cases L:(D:Int)=22
 .rw[cR (.inl L),cR L];have:=F cM cM;have:=I L;rw[L]at C|-;clear F I M O hS;go_enter K9,FU;go_wp2_with fail;refine(C _ (by go_grown)).mono ?_;rintro e w1 ⟨rfl,E⟩;have HB:Hid (zB w w1):=jW (by go_grown) (E.mono dC);have c0:=di (fE (w:=w) (cs:=(zW 22 a b)) (t:=105) (j:=0) rfl) E;have c1:=di (fE (w:=w) (cs:=(zW 22 a b)) (t:=105) (j:=1) rfl) E;have c2:=di (fE (w:=w) (cs:=(zW 22 a b)) (t:=105) (j:=2) rfl) E;clear E;go_wp2;go_quiet (fail);go_wp2;go_returns;exact⟨rfl,dQ HB _⟩
 rw[cK L];have ab:((D:Int)==22)=false:=iY;by_cases J:(D:Int)=23\/(D:Int)=24
 .rw[cR (.inr J),M cM];have:=F cM cM;clear F I M O hS L ab;obtain J|J:=J;all_goals
   rw[J]at C|-;go_enter K9,FU;go_wp2_with fail;refine(C _ (by go_grown)).mono ?_;rintro e w1 ⟨rfl,E⟩;have HB:Hid (zB w w1):=jW (by go_grown) (E.mono dC);have c0:=di (fE (w:=w) (cs:=(zW D a b)) (t:=105) (j:=0) rfl) (J▸E);have c1:=di (fE (w:=w) (cs:=(zW D a b)) (t:=105) (j:=1) rfl) (J▸E);rw[J]at c0;clear E;go_wp2;go_returns;exact⟨rfl,HB⟩
 rw[cK cM];have ad:((D:Int)==23)=false:=iY;have ae:((D:Int)==24)=false:=iY;by_cases K:(D:Int)=20\/(D:Int)=21
 .rw[M cM,O K];clear F I M O hS ab ad ae;obtain K|K:=K;all_goals
   rw[K]at C|-;go_enter K9,FU;go_wp2_with fail;refine(C _ (by go_grown)).mono ?_;rintro e w1 ⟨rfl,E⟩;have HB:Hid (zB w w1):=jW (by go_grown) (E.mono dC);have c0:=di (fE (w:=w) (cs:=(zW D a b)) (t:=105) (j:=0) rfl) (K▸E);rw[K]at c0;clear E;go_wp2;go_returns;exact⟨rfl,HB⟩
 have af:((D:Int)==20)=false:=iY;have ag:((D:Int)==21)=false:=iY;rw[<-hS K];clear F I M O hS K L J;go_enter K9,FU;go_wp2_with fail;refine(C _ (by go_grown)).mono ?_;rintro e w1 ⟨rfl,E⟩;have HB:Hid (zB w w1):=jW (by go_grown) (E.mono dC);have c0:=di (fE (w:=w) (cs:=(zW D a b)) (t:=105) (j:=0) rfl) E;clear E;go_wp2;go_returns;exact⟨rfl,HB⟩
end chk
end Go.Proofs.YtfpkdfeakanlpaaGreatDoor
