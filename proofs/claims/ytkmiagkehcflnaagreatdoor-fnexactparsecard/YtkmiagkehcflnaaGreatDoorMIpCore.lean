import Derived.Test.YtkmiagkehcflnaaGreatDoorMTrValid
import Derived.Test.YtkmiagkehcflnaaGreatDoorMPsParse
import Derived.Test.YtkmiagkehcflnaaGreatDoorMIpMl
import Derived.Test.YtkmiagkehcflnaaGreatDoorMIpZ
set_option maxRecDepth 100000
set_option maxHeartbeats 8000000
namespace Go.Proofs.YtkmiagkehcflnaaGreatDoor
namespace ip
open Go.RowKit bts nod lex tk vt
open ps (En Ps pz parseS ParsePost specParse_any)
theorem rd_bare {B:Nat→Bool} {w:World} {ao:Option Addr} {zs:List Int} (h:Rd (veil B w) ao zs):Rd w ao zs:=fun i hi=>by
 obtain ⟨b,off,e,h⟩:=h i hi
 exact ⟨b,off,e,(veil_cell h).1⟩
theorem rdV_bare {B:Nat→Bool} {w:World} {v:Value} {zs:List Int} (h:RdV (veil B w) v zs):RdV w v zs:=by
 obtain ⟨ao,cap,e,h1,h2,h3⟩:=h
 exact ⟨ao,cap,e,h1,rd_bare h2,h3⟩
theorem rdVV_bare {B:Nat→Bool} {w:World} {v:Value} {l:List (List Int)} (h:RdVV (veil B w) v l):RdVV w v l:=by
 obtain ⟨ao,cap,e,h1,h2⟩:=h
 refine ⟨ao,cap,e,h1,fun i hi=>?_⟩
 obtain ⟨b,off,u,e,hc,hu⟩:=h2 i hi
 exact ⟨b,off,u,e,(veil_cell hc).1,rdV_bare hu⟩
theorem rdN_bare {B:Nat→Bool} {w:World} {ao:Option Addr} {l:List Nd} (h:RdN (veil B w) ao l):RdN w ao l:=fun i hi=>by
 obtain ⟨b,off,ut,un,e,c0,c1,c2,c3,c4,ht,hn⟩:=h i hi
 exact ⟨b,off,ut,un,e,(veil_cell c0).1,(veil_cell c1).1,(veil_cell c2).1,(veil_cell c3).1,(veil_cell c4).1,rdV_bare ht,rdVV_bare hn⟩
theorem Chain.all {P:Nat→Nat→Value→List Nd→Prop}:∀{us:List Value} {B E:Nat} {ks:List (List Nd)},Chain P B E us ks→∀k∈ks,∃B E v,P B E v k
 |[],_,_,_,hc,k,hk=>by rw [hc.1] at hk;cases hk
 |_::_,_,_,_,⟨M,k0,r,e,hB,hp,hc⟩,k,hk=>by
  rw [e] at hk
  rcases List.mem_cons.1 hk with rfl|hk
  ·exact ⟨_,_,_,hp⟩
  ·exact Chain.all hc k hk
theorem rpD_fine {w:World}:∀{D:Nat} {B E:Nat} {v:Value} {l:List Nd},RpD D w B E v l→∀x∈l,x.text.length+sizeSS x.names≤1048576:=by
 intro D
 induction D with
 |zero=>intro B E v l h;exact h.elim
 |succ D ih =>
  rintro B E v l ⟨d,ks,us,g,ao,cap,ut,un,M,ev,hk,rfl,hc,hN,hM,hT,hTT,hsz,hcell,hch⟩ x hx
  unfold tk.node at hx
  rcases List.mem_cons.1 hx with rfl|hx
  ·exact hsz
  ·obtain ⟨k,hk1,hk2⟩:=List.mem_flatten.1 hx
   obtain ⟨B',E',v',h'⟩:=Chain.all hch k hk1
   exact ih h' x hk2
theorem Nv.fine {V:Nat→Bool} {w:World} {B E:Nat} {v:Value} {l:List Nd} (h:Nv V w B E v l):Fine l:=fun i hi=>by
 obtain ⟨D,h⟩:=h
 rw [List.getD_eq_getElem?_getD,List.getElem?_eq_getElem hi]
 exact rpD_fine h _ (List.getElem_mem hi)
theorem fine_top {w:World} {sv:Option Addr} {sc:Nat} {zs:List Int} (hb:Bts zs) (hr:Rd w sv zs) (hz:(sv=none∧sc=0∧zs.length=0)∨∃b,sv=some ⟨b,0,none⟩) (hc:zs.length≤sc) (hm:sc≤9223372036854775807) (ho:Opr w) (h0:(lexR zs).2.1=0) (hbad:(topS zs (lexR zs).1).bad<0) :
  ∃l,(top zs (lexR zs).1).1=[l]∧Fine l:=by
 obtain ⟨e,w1,fr,⟨_,⟨_,E,g,eE,eT,hI,hP,_,_⟩|⟨h,_⟩⟩,_⟩:=newParser_any hb hr hz hc hm ho []
 ·obtain ⟨e2,w2,fr2,hx,_⟩:=program_any hI w1 g hP []
  rw [eE,eT] at hx
  rcases hx with ⟨_,⟨_,v,_,l,hl,_,_,hN⟩|⟨h,_⟩⟩
  ·exact ⟨l,hl,hN.fine⟩
  ·omega
 ·exact absurd h0 h
theorem specParse_valid {w:World} {gs sc:Nat} {zs:List Int} (hb:Bts zs) (hr:Rd w (some ⟨gs,0,none⟩) zs) (hc:zs.length≤sc) (hm:sc≤9223372036854775807) (ho:Opr w) :
  Calls Tryz.prog 4 #[.slice (some ⟨gs,0,none⟩) zs.length sc] w (ParsePost w (parseS zs valid)):=by
 refine specParse_any hb hr hc hm valid Fine (fun h0 h1 h2=>?_) (fun W B a c l hF hl hf=>?_)
 ·have e:topS zs (lexR zs).1=(top zs (lexR zs).1).2.2:=by
   unfold topS
   rw [if_neg (fun h=>h2 h.2)]
  obtain ⟨l,hl,hf⟩:=fine_top hb hr (.inr ⟨gs,rfl⟩) hc hm ho h0 (by rw [e];exact h1)
  have:(pz zs (lexR zs).1 (20*(lexR zs).1.length+40) 11 0 [] ⟨0,-1,false,false⟩).1=[l]:=hl
  rw [this]
  exact hf
 ·obtain ⟨ao,cap,e,_,hr⟩:=hF
  simp only [Value.slice.injEq] at e
  obtain ⟨rfl,_,rfl⟩:=e
  exact specValid_fine _ _ _ l W rfl (rdN_bare hr) (by omega) hf
theorem parseS_bad {zs:List Int} (hbad:¬((lexR zs).2.1=0∧(topS zs (lexR zs).1).bad<0∧valid ((top zs (lexR zs).1).1.getD 0 [])=true)):parseS zs valid=([],(bcode zs).1,(bcode zs).2):=by
 unfold ps.parseS bcode
 by_cases h0:(lexR zs).2.1=0
 ·rw [if_pos h0,parse_top,if_neg (show ¬¬(lexR zs).2.1=0 from fun h=>h h0)]
  by_cases h1:0≤(topS zs (lexR zs).1).bad
  ·rw [if_pos h1,if_pos h1]
  ·rw [if_neg h1,if_neg h1]
   have hv:valid ((top zs (lexR zs).1).1.getD 0 [])=false:=by
    cases hc:valid ((top zs (lexR zs).1).1.getD 0 []) with
    |false=>rfl
    |true=>exact absurd ⟨h0,by omega,hc⟩ hbad
   rw [hv,if_pos (by simp)]
 ·rw [if_neg h0,if_pos h0]
theorem parseS_ok {zs:List Int} {l:List Nd} (h0:(lexR zs).2.1=0) (h1:(topS zs (lexR zs).1).bad<0) (hl:(top zs (lexR zs).1).1=[l]) (hv:valid l=true) (hn:(topS zs (lexR zs).1).long=false):parseS zs valid=(l,0,0):=by
 unfold ps.parseS
 rw [if_pos h0,parse_top,if_neg (by omega),hn,hl]
 show (if (false || !valid l)=true then _ else _)=_
 rw [hv]
 rfl
end ip
namespace ip
open Go.RowKit bts nod lex tk vt
open ps (own_far parseS ParsePost)
theorem own_keep {w w':World} {B T c n:Nat} {v:Value} {us:List Value} (h:w.ownsRow B T c v n us) (hk:∀b,B≤b→b<w.heap.size→w'.heap[b]?=w.heap[b]?):w'.ownsRow B T c v n us:=own_far h (fun b e=>hk b (h.lt b e).1 (h.lt b e).2)
theorem OwT.keep {w w':World} {lo hi:Nat} {v:Value} {zs:List Int} (h:OwT w lo hi v zs) (hk:∀b,lo≤b→b<w.heap.size→w'.heap[b]?=w.heap[b]?):OwT w' lo hi v zs:=⟨own_keep h.1 hk,h.2⟩
theorem OwTT.keep {w w':World} {lo hi:Nat} {v:Value} {l:List (List Int)} (h:OwTT w lo hi v l) (hk:∀b,lo≤b→b<w.heap.size→w'.heap[b]?=w.heap[b]?):OwTT w' lo hi v l:=by
 obtain ⟨us,h1,h2,h3,h4⟩:=h
 refine ⟨us,own_keep h1 hk,h2,fun i hi=>?_,h4⟩
 obtain ⟨u,e,ho⟩:=h3 i hi
 exact ⟨u,e,ho.keep hk⟩
def Ans (w:World) (B:Nat) (v:Value) (L:List Nd):Prop:=(L=[]∧v=.slice none 0 0)∨(valid L=true∧Fine L∧∃us bo X,(∀i,bo i≤bo (i+1))∧B≤bo 0∧bo L.length≤X∧w.ownsRow X 61 5 v L.length us∧Rws w bo us L.length (fun i=>L.getD i nd0))
theorem Ans.keep {w w':World} {B:Nat} {v:Value} {L:List Nd} (h:Ans w B v L) (hk:∀b,B≤b→b<w.heap.size→w'.heap[b]?=w.heap[b]?):Ans w' B v L:=by
 rcases h with h|⟨hv,hf,us,bo,X,hm,h0,hX,ho,hr⟩
 ·exact .inl h
 ·have h1:=mono_le hm (Nat.zero_le L.length)
  refine .inr ⟨hv,hf,us,bo,X,hm,h0,hX,own_keep ho (fun b hb=>hk b (by omega)),fun i hi=>?_⟩
  have h2:=mono_le hm (Nat.zero_le i)
  obtain ⟨ut,un,c0,c1,c2,c3,c4,ht,hn⟩:=hr i hi
  exact ⟨ut,un,c0,c1,c2,c3,c4,ht.elim (fun h=>.inl h) (fun h=>.inr (h.keep (fun b hb=>hk b (by omega)))),hn.elim (fun h=>.inl h) (fun h=>.inr (h.keep (fun b hb=>hk b (by omega))))⟩
theorem Ans.below {w w':World} {B:Nat} {v:Value} {L:List Nd} (h:Ans w B v L) (hb:Below w.heap.size w w'):Ans w' B v L:=h.keep (fun b _ hl=>hb.block b hl)
theorem OwE.rdv {w:World} {lo hi:Nat} {v:Value} {zs:List Int} (h:OwE w lo hi v zs):RdV w v zs:=by
 rcases h with ⟨rfl,a,c,rfl⟩|h
 ·exact ⟨a,c,rfl,by simp,fun i hi=>absurd hi (by simp),fun i=>by simp⟩
 ·obtain ⟨a,c,e,h1,h2,h3,h4⟩:=h.rc
  exact ⟨a,c,e,by omega,h3,h4⟩
theorem OwF.rdvv {w:World} {lo hi:Nat} {v:Value} {l:List (List Int)} (h:OwF w lo hi v l):RdVV w v l:=by
 rcases h with ⟨rfl,a,c,rfl⟩|h
 ·exact ⟨a,c,rfl,by simp,fun i hi=>absurd hi (by simp)⟩
 ·obtain ⟨a,c,e,h1,h2,h3⟩:=h.rc
  refine ⟨a,c,e,by omega,fun i hi=>?_⟩
  obtain ⟨b,off,u,e,hc,ao,cc,e2,q1,q2,q3,q4⟩:=h3 i hi
  exact ⟨b,off,u,e,hc,ao,cc,e2,by omega,q3,q4⟩
theorem Ans.rd {w:World} {B n c:Nat} {a:Option Addr} {L:List Nd} (h:Ans w B (.slice a n c) L):RdN w a L:=by
 rcases h with ⟨rfl,_⟩|⟨_,_,us,bo,X,_,_,_,ho,hr⟩
 ·exact fun i hi=>absurd hi (by simp)
 ·intro i hi
  obtain ⟨ut,un,c0,c1,c2,c3,c4,ht,hn⟩:=hr i hi
  rcases ho.2 with ⟨_,e⟩|⟨g,cap,cur,e,_⟩
  ·omega
  ·have hl:=ho.1
   simp only [Value.slice.injEq] at e
   obtain ⟨rfl,rfl,rfl⟩:=e
   refine ⟨g,0,ut,un,rfl,?_,?_,?_,?_,?_,ht.rdv,hn.rdvv⟩
   ·rw [Nat.zero_add];exact (ho.cellAt _ (by omega)).trans c0
   ·rw [Nat.zero_add];exact (ho.cellAt _ (by omega)).trans c1
   ·rw [Nat.zero_add];exact (ho.cellAt _ (by omega)).trans c2
   ·rw [Nat.zero_add];exact (ho.cellAt _ (by omega)).trans c3
   ·rw [Nat.zero_add];exact (ho.cellAt _ (by omega)).trans c4
theorem Ans.fine {w:World} {B:Nat} {v:Value} {L:List Nd} (h:Ans w B v L):Fine L∧L.length≤6000:=by
 rcases h with ⟨rfl,_⟩|⟨hv,hf,_⟩
 ·exact ⟨fun i hi=>absurd hi (by simp),by simp⟩
 ·refine ⟨hf,?_⟩
  rw [valid_eq] at hv
  unfold validI at hv
  simp only [Bool.and_eq_true,decide_eq_true_eq] at hv
  exact hv.1
theorem markNodeS_nil (k:Int) (w:World):Calls Tryz.prog 10 #[.slice none 0 0,.int .i64 k] w fun e w'=>e=.returned (.int .i64 k)∧w'=w:=by
 go_enter Tryz.func10,Tryz.ntmps10
 go_wp2
 refine wp_loop_rounds 1 ?_
 rw [rounds_succ]
 go_wp2
 go_ret
 exact ⟨rfl,rfl⟩
theorem heldNodeS_nil (k:Int) (w:World):Calls Tryz.prog 11 #[.slice none 0 0,.int .i64 k] w fun e w'=>e=.returned (.int .i64 k)∧w'=w:=by
 go_enter Tryz.func11,Tryz.ntmps11
 go_wp2
 refine wp_loop_rounds 1 ?_
 rw [rounds_succ]
 go_wp2
 go_ret
 exact ⟨rfl,rfl⟩
def Held (v:Value) (q:Int) (w:World):Prop:=(1≤q∧q≤10000000000)∧Calls Tryz.prog 11 #[v,.int .i64 1] w fun e w'=>e=.returned (.int .i64 q)∧w'=w
theorem mark_ans {w:World} {B:Nat} {v:Value} {L:List Nd} (h:Ans w B v L):Calls Tryz.prog 10 #[v,.int .i64 1] w fun e w'=>∃q,e=.returned (.int .i64 q)∧Below B w w'∧Held v q w':=by
 have h6:=h.fine.2
 rcases h with ⟨rfl,rfl⟩|⟨hv,_,us,bo,X,hm,h0,hX,ho,hr⟩
 ·refine (markNodeS_nil 1 w).mono ?_
  rintro e w' ⟨rfl,rfl⟩
  exact ⟨1,rfl,Below.refl _ _,⟨by omega,by omega⟩,heldNodeS_nil 1 w'⟩
 ·have hs:∀i,i<L.length→Sml (L.getD i nd0):=fun i hi=>valid_sml hv L List.mem_cons_self _ (getD_mem hi)
  rcases ho.2 with ⟨rfl,e0⟩|⟨g,cap,cur,rfl,_⟩
  ·refine (markNodeS_nil 1 w).mono ?_
   rintro e w' ⟨rfl,rfl⟩
   exact ⟨1,rfl,Below.refl _ _,⟨by omega,by omega⟩,heldNodeS_nil 1 w'⟩
  ·refine (markNodeS_any hr hm hX ho hs h6).mono ?_
   rintro e w' ⟨rfl,hb,us',ho',hr'⟩
   have hk:=kL_le hs L.length (Nat.le_refl _)
   exact ⟨_,rfl,hb.mono h0,⟨by omega,by omega⟩,heldNodeS_any hr' ho' hs h6⟩
theorem implParse_any {w:World} {g:Nat} {zs:List Int} (hb:Bts zs) (hr:Rd w (some ⟨g,0,none⟩) zs) (hn:zs.length≤1048576) (ho:Opr w) (hh:Hnd w) :
  Calls Tryz.prog 6 #[.slice (some ⟨g,0,none⟩) zs.length zs.length] w fun e w'=>∃a c,e=.returned (.tuple #[.slice a (parseS zs valid).1.length c,.int .i64 (parseS zs valid).2.1,.int .i64 (parseS zs valid).2.2])∧Below w.heap.size w w'∧Ans w' w.heap.size (.slice a (parseS zs valid).1.length c) (parseS zs valid).1:=by
 by_cases hgd:(lexR zs).2.1=0∧(topS zs (lexR zs).1).bad<0∧valid ((top zs (lexR zs).1).1.getD 0 [])=true
 ·obtain ⟨h0,h1,h2⟩:=hgd
  obtain ⟨l,hl,hf⟩:=fine_top hb hr (.inr ⟨g,rfl⟩) (Nat.le_refl _) (by omega) ho h0 h1
  rw [hl] at h2
  have hv:valid l=true:=h2
  rw [parseS_ok h0 h1 hl hv (long_no h1 hl hv)]
  refine (callsIn_wide.1 (parse_in 3 (Nat.le_refl _) hb hr (.inr ⟨g,rfl⟩) (Nat.le_refl _) (by omega) ho ⟨h0,h1,hl,hv⟩)).mono ?_
  rintro e w' ⟨a,c,us,B,E,X,rfl,hB,h3,h4,h5,h6⟩
  obtain ⟨bo,e0,hm,hE,_,hR⟩:=rwC_rws h6
  exact ⟨a,c,rfl,hB,.inr ⟨hv,hf,us,bo,X,hm,by rw [e0];exact h3,Nat.le_trans hE h4,h5,hR⟩⟩
 ·rw [parseS_bad hgd]
  refine (callsIn_wide.1 (parse_bad 3 hb hr (.inr ⟨g,rfl⟩) (Nat.le_refl _) (by omega) ho hh hgd)).mono ?_
  rintro e w' ⟨hB,rfl⟩
  exact ⟨none,0,rfl,hB,.inl ⟨rfl,rfl⟩⟩
theorem eqNodeS_fine (ao bo:Option Addr) (n cap cap':Nat) (l:List Nd) (w:World) (hl:l.length=n) (hr:RdN w ao l) (hs:RdN w bo l) (hz:Fine l) (hn1:n≤1048576) :
  Calls Tryz.prog 7 #[.slice ao n cap,.slice bo n cap'] w fun e w'=>e=.returned (.bool true)∧Below w.heap.size w w':=by
 have HS:Hid (∀i,i<l.length→(l.getD i nd0).text.length+sizeSS (l.getD i nd0).names≤1048576):=hz
 have HL:Hid (l.length=n):=hl
 have HR:Hid (RdN w ao l):=hr
 have HR':Hid (RdN w bo l):=hs
 clear hl hr hs hz
 go_enter Tryz.func7,Tryz.ntmps7
 go_wp2
 go_loopw [5] (fun i wr=>∃(k:Nat),k≤n∧i=.int .i64 k∧Below w.heap.size w wr) (fun i _=>n-(intOf i).toNat)
 case atStart=>exact ⟨0,Nat.zero_le _,rfl,Below.refl _ _⟩
 case round =>
  obtain ⟨k,hk,rfl,hbel⟩:=hrel
  by_cases hlt:k<n
  ·obtain ⟨b,off,ut,un,rfl,c0,c1,c2,c3,c4,ht,hn⟩:=(HR.out.below hbel) k (by rw [HL.out];exact hlt)
   obtain ⟨b',off',ut',un',rfl,e0,e1,e2,e3,e4,ht',hn'⟩:=(HR'.out.below hbel) k (by rw [HL.out];exact hlt)
   have hsz:=HS.out k (by rw [HL.out];exact hlt)
   generalize l.getD k nd0=d at c0 c1 c4 ht hn e0 e1 e4 ht' hn' hsz
   obtain ⟨kd,nn,tx,nms,ct⟩:=d
   simp only at c0 c1 c4 ht hn e0 e1 e4 ht' hn' hsz
   have C:Hid (∀W,Below wr.heap.size wr W→Calls Tryz.prog 22 #[.agg #[.int .i64 kd,.int .i64 nn,ut,un,.int .i64 ct],.agg #[.int .i64 kd,.int .i64 nn,ut',un',.int .i64 ct]] W fun e w'=>e=.returned (.bool true)∧∃o o' d,w'=((W.alloc o).alloc o').drewN d) :=
    fun W hW=>eqNode_same kd nn ct ut un ut' un' tx nms W (ht.below hW) (hn.below hW) (ht'.below hW) (hn'.below hW) hsz
   have hlt':(k:Int)<(n:Int):=by omega
   have HB:Hid (Below w.heap.size w wr):=hbel
   have hsw:=hbel.size
   clear ht hn ht' hn' hsz hbel
   go_wp2_with fail
   go_region_held3 (fun w'=>w'.cell? ⟨b,off+k*5,none⟩=some (.int .i64 kd)∧w'.cell? ⟨b,off+k*5+1,none⟩=some (.int .i64 nn)∧w'.cell? ⟨b,off+k*5+2,none⟩=some ut∧w'.cell? ⟨b,off+k*5+3,none⟩=some un∧w'.cell? ⟨b,off+k*5+4,none⟩=some (.int .i64 ct)∧w'.cell? ⟨b',off'+k*5,none⟩=some (.int .i64 kd)∧w'.cell? ⟨b',off'+k*5+1,none⟩=some (.int .i64 nn)∧w'.cell? ⟨b',off'+k*5+2,none⟩=some ut'∧w'.cell? ⟨b',off'+k*5+3,none⟩=some un'∧w'.cell? ⟨b',off'+k*5+4,none⟩=some (.int .i64 ct)) (go_keep)
    ((go_at_call 22;refine (C.out _ (by repeat (first|exact Below.refl _ _|assumption|refine Below.drew ?_|refine tk.bel_drewN ?_ _))).mono ?_;rintro e w' ⟨rfl,o,o',d,rfl⟩))
   go_wp2
   go_roundw
   case rel=>exact ⟨k+1,by omega,by go_num,by repeat (first|exact HB.out|refine tk.bel_drewN ?_ _|refine Below.drew ?_|refine Below.alloc ?_ (by simp;omega) _|refine Below.alloc ?_ hsw _)⟩
   case measure=>simp [intOf];omega
  ·have hkn:k=n:=by omega
   subst hkn
   go_wp2
   go_ret
   exact ⟨rfl,hbel⟩
end ip
namespace ip
open Go.RowKit bts nod lex tk vt
open ps (own_far parseS ParsePost)
def Gives (w:World) (L:List Nd) (N:Nat) (k1 k2:Int) (e:Ending) (w':World):Prop:=∃a c,e=.returned (.tuple #[.slice a N c,.int .i64 k1,.int .i64 k2])∧Below w.heap.size w w'∧Ans w' w.heap.size (.slice a N c) L
def GivesS (w:World) (L:List Nd) (N:Nat) (k1 k2:Int) (e:Ending) (w':World):Prop:=∃a c,e=.returned (.tuple #[.slice a N c,.int .i64 k1,.int .i64 k2])∧Below w.heap.size w w'∧RdN w' a L
theorem core (ao:Option Addr) (cap:Nat) (zs:List Int) (w:World) (hr:Rd w ao zs) (hb:Bts zs) (ho:Opr w) (hh:Hnd w) :
  Calls Tryz.prog 3 #[.slice ao zs.length cap] w fun e w'=>e=.returned (.bool true)∧Below w.heap.size w w':=by
 obtain ⟨n,hnn⟩:∃n,n=zs.length:=⟨_,rfl⟩
 by_cases hn:1048576<n
 ·rw [← hnn]
  clear hnn
  go_enter Tryz.func3,Tryz.ntmps3
  go_wp2_with fail
  go_ret
  exact ⟨rfl,Below.refl _ _⟩
 ·have hn':n≤1048576:=by omega
  clear hn
  have HL:Hid (zs.length=n):=hnn.symm
  have toB:∀w',Below w.heap.size w w'→Calls Tryz.prog 5 #[.slice ao n cap] w' fun e w''=>e=.returned (.slice (some ⟨w'.heap.size,0,none⟩) n n) ∧
    w''.ownsRow w'.heap.size 5 1 (.slice (some ⟨w'.heap.size,0,none⟩) n n) n (bcells zs)∧Below w'.heap.size w' w'':=by
   intro w' hbw
   have:=toByteS_any ao cap zs w' (hr.below hbw) (by omega)
   rw [← hnn] at this
   exact this
  obtain ⟨R,hR⟩:∃R,R=parseS zs valid:=⟨_,rfl⟩
  obtain ⟨L,k1,k2⟩:=R
  obtain ⟨N,hNN⟩:∃N,N=L.length:=⟨_,rfl⟩
  have HQ:Hid (L.length=N):=hNN.symm
  have im:∀w' g,Below w.heap.size w w'→Rd w' (some ⟨g,0,none⟩) zs→Calls Tryz.prog 6 #[.slice (some ⟨g,0,none⟩) n n] w' (Gives w' L N k1 k2):=by
   intro w' g hbw h
   have:=implParse_any hb h (by omega) (ho.below hbw) (hh.below hbw)
   rw [← hR,← hnn] at this
   rw [hNN]
   exact this
  have sp:∀w' g,Below w.heap.size w w'→Rd w' (some ⟨g,0,none⟩) zs→Calls Tryz.prog 4 #[.slice (some ⟨g,0,none⟩) n n] w' (GivesS w' L N k1 k2):=by
   intro w' g hbw h
   have:=specParse_valid hb h (by omega:zs.length≤n) (by omega) (ho.below hbw)
   rw [← hR,← hnn] at this
   refine this.mono ?_
   rintro e w'' ⟨a,c,rfl,⟨a',c',e',_,hrd⟩,hB⟩
   simp only [Value.slice.injEq] at e'
   obtain ⟨rfl,_,rfl⟩:=e'
   exact ⟨a,c,by rw [hNN],hB,rdN_bare hrd⟩
  have TB:Hid (∀w',Below w.heap.size w w'→Calls Tryz.prog 5 #[.slice ao n cap] w' fun e w''=>e=.returned (.slice (some ⟨w'.heap.size,0,none⟩) n n) ∧
    w''.ownsRow w'.heap.size 5 1 (.slice (some ⟨w'.heap.size,0,none⟩) n n) n (bcells zs)∧Below w'.heap.size w' w''):=toB
  have IM:Hid (∀w' g,Below w.heap.size w w'→Rd w' (some ⟨g,0,none⟩) zs→Calls Tryz.prog 6 #[.slice (some ⟨g,0,none⟩) n n] w' (Gives w' L N k1 k2)):=im
  have SP:Hid (∀w' g,Below w.heap.size w w'→Rd w' (some ⟨g,0,none⟩) zs→Calls Tryz.prog 4 #[.slice (some ⟨g,0,none⟩) n n] w' (GivesS w' L N k1 k2)):=sp
  rw [← hnn]
  clear hnn hNN toB im sp hr hb ho hh hR
  go_enter Tryz.func3,Tryz.ntmps3
  go_wp2_with fail
  refine (TB.out w (Below.refl _ _)).mono ?_
  rintro e w1 ⟨rfl,o1,b1⟩
  have C:=SP.out w1 w.heap.size b1 (Rd.owned o1 HL.out)
  clear o1
  go_wp2_with fail
  refine C.mono ?_
  rintro e w2 ⟨aS,cS,rfl,b2,rS⟩
  clear C
  have HB2:Hid (Below w.heap.size w w2):=b1.trans (b2.mono b1.size)
  have H12:Hid (w.heap.size≤w2.heap.size):=HB2.out.size
  have HRS:Hid (RdN w2 aS L):=rS
  clear b1 b2 rS
  go_wp2_with fail
  refine (TB.out w2 HB2.out).mono ?_
  rintro e w3 ⟨rfl,oX,b3⟩
  have HltX:Hid (w2.heap.size<w3.heap.size):=(oX.lt _ rfl).2
  have C:=IM.out w3 w2.heap.size (HB2.out.trans (b3.mono H12.out)) (Rd.owned oX HL.out)
  go_wp2_with fail
  refine C.mono ?_
  rintro e w4 ⟨aI,cI,rfl,b4,hA⟩
  clear C
  have HN6:Hid (Fine L∧N≤1048576):=⟨hA.fine.1,by have:=hA.fine.2;have:=HQ.out;omega⟩
  have HS4:Hid (Below w2.heap.size w2 w4):=b3.trans (b4.mono b3.size)
  have HX4:Hid (w4.ownsRow w2.heap.size 5 1 (.slice (some ⟨w2.heap.size,0,none⟩) n n) n (bcells zs)):=own_below oX b4 HltX.out
  have HG4:Hid (Ans w4 w3.heap.size (.slice aI N cI) L):=hA
  have C:=eqNodeS_fine aI aS N cI cS L w4 HQ.out hA.rd (HRS.out.below HS4.out) HN6.out.1 HN6.out.2
  clear oX b3 b4 hA
  go_wp2_with fail
  refine C.mono ?_
  rintro e w5 ⟨rfl,s5⟩
  clear C
  have HS5:Hid (Below w2.heap.size w2 w5):=HS4.out.trans (s5.mono HS4.out.size)
  have HX5:Hid (w5.ownsRow w2.heap.size 5 1 (.slice (some ⟨w2.heap.size,0,none⟩) n n) n (bcells zs)):=own_below HX4.out s5 (HX4.out.lt _ rfl).2
  have HG5:Hid (Ans w5 w3.heap.size (.slice aI N cI) L):=HG4.out.below s5
  clear s5 HS4 HX4 HG4
  go_wp2_with fail
  refine (TB.out w5 (HB2.out.trans (HS5.out.mono H12.out))).mono ?_
  rintro e w6 ⟨rfl,oY,b6⟩
  have HS6:Hid (Below w2.heap.size w2 w6):=HS5.out.trans (b6.mono HS5.out.size)
  have HX6:Hid (w6.ownsRow w2.heap.size 5 1 (.slice (some ⟨w2.heap.size,0,none⟩) n n) n (bcells zs)):=own_below HX5.out b6 (HX5.out.lt _ rfl).2
  have HG6:Hid (Ans w6 w3.heap.size (.slice aI N cI) L):=HG5.out.below b6
  have C:=eqByteS_at (some ⟨w2.heap.size,0,none⟩) (some ⟨w5.heap.size,0,none⟩) n n n zs w6 HL.out (Rd.owned HX6.out HL.out) (Rd.owned oY HL.out) (by omega)
  clear oY b6 HS5 HX5 HG5
  go_wp2_with fail
  refine C.mono ?_
  rintro e w7 ⟨rfl,s7⟩
  clear C
  have HS7:Hid (Below w2.heap.size w2 w7):=HS6.out.trans (s7.2 _)
  have HG7:Hid (Ans w7 w3.heap.size (.slice aI N cI) L):=HG6.out.below (s7.2 _)
  have C:=markByteS_own (.slice (some ⟨w2.heap.size,0,none⟩) n n) n w2.heap.size (bcells zs) 1 (by omega) (by omega) w7 (own_heap HX6.out s7) (by omega)
  clear s7 HS6 HX6 HG6
  go_wp2_with fail
  refine C.mono ?_
  rintro e w8 ⟨rfl,oX8,g8⟩
  clear C oX8
  have HS8:Hid (Below w2.heap.size w2 w8):=HS7.out.grown g8 HS7.out.size (by intro k hk;cases hk;exact Nat.le_refl _)
  have HG8:Hid (Ans w8 w3.heap.size (.slice aI N cI) L):=HG7.out.keep (fun b hb hl=>g8.block b hl (fun e=>by cases e;have h1:=HltX.out;have h2:w3.heap.size≤w2.heap.size:=hb;omega))
  have C:=eqNodeS_fine aI aS N cI cS L w8 HQ.out HG8.out.rd (HRS.out.below HS8.out) HN6.out.1 HN6.out.2
  clear g8 HS7 HG7
  go_wp2_with fail
  refine C.mono ?_
  rintro e w9 ⟨rfl,s9⟩
  clear C
  have HS9:Hid (Below w2.heap.size w2 w9):=HS8.out.trans (s9.mono HS8.out.size)
  have HG9:Hid (Ans w9 w3.heap.size (.slice aI N cI) L):=HG8.out.below s9
  have C:=mark_ans HG9.out
  clear s9 HS8 HG8
  go_wp2_with fail
  refine C.mono ?_
  rintro e w10 ⟨q,rfl,b10,hq⟩
  clear C
  have HS10:Hid (Below w2.heap.size w2 w10):=HS9.out.trans (b10.mono (by have:=HltX.out;omega))
  have hq1:=hq.1
  have C:=hq.2
  clear b10 HS9 hq
  go_wp2_with fail
  refine C.mono ?_
  rintro e w' ⟨rfl,hw⟩
  replace hw:=hw.symm
  subst hw
  clear C
  go_wp2_with fail
  refine (TB.out w10 (HB2.out.trans (HS10.out.mono H12.out))).mono ?_
  rintro e w11 ⟨rfl,o11,b11⟩
  have HS11:Hid (Below w2.heap.size w2 w11):=HS10.out.trans (b11.mono HS10.out.size)
  have C:=IM.out w11 w10.heap.size (HB2.out.trans (HS11.out.mono H12.out)) (Rd.owned o11 HL.out)
  clear o11 b11
  go_wp2_with fail
  refine C.mono ?_
  rintro e w12 ⟨aJ,cJ,rfl,b12,hJ⟩
  clear C
  have HS12:Hid (Below w2.heap.size w2 w12):=HS11.out.trans (b12.mono HS11.out.size)
  have C:=eqNodeS_fine aJ aS N cJ cS L w12 HQ.out hJ.rd (HRS.out.below HS12.out) HN6.out.1 HN6.out.2
  clear b12 hJ
  go_wp2_with fail
  refine C.mono ?_
  rintro e w13 ⟨rfl,s13⟩
  clear C
  go_wp2_with fail
  go_ret
  exact ⟨rfl,(HB2.out.trans (HS12.out.mono H12.out)).trans (s13.mono (Nat.le_trans H12.out HS12.out.size))⟩
end ip
end Go.Proofs.YtkmiagkehcflnaaGreatDoor
