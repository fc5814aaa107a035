import Derived.Test.YtkmiagkehcflnaaGreatDoorMLexToks
import Derived.Test.YtkmiagkehcflnaaGreatDoorMLexRead
set_option maxRecDepth 100000
set_option maxHeartbeats 8000000
namespace Go.Proofs.YtkmiagkehcflnaaGreatDoor
namespace lex
open Go.RowKit bts scn lit
section
variable {P:Program} {a:Act} {w:World} {Q:Exit→Act→World→Prop}
theorem wp_skip_seq {rest:Code} (h:rest.wp P Q a w):(Code.skip.seq rest).wp P Q a w:=wp_seq (wp_skip h)
theorem wp_weaker {c:Code} {Q':Exit→Act→World→Prop} (h:c.wp P Q a w) (hq:∀e a w,Q e a w→Q' e a w):c.wp P Q' a w:=by
 intro b k cs
 obtain ⟨e,a',w',hq',harr⟩:=h b k cs
 exact ⟨e,a',w',hq _ _ _ hq',harr⟩
theorem leaps_weaker {J J':Nat→Act→World→Prop} (h:∀l a w,J l a w→J' l a w):∀e a w,Leaps J Q e a w→Leaps J' Q e a w:=by
 intro e a w hq
 cases e with
 |goto l'=>exact h _ _ _ hq
 |normal=>exact hq
 |exit id=>exact hq
 |ret=>exact hq
 |panic ch=>exact hq
 |outgrown=>exact hq
theorem wp_scope_enter {c:Code} (J:Nat→Nat→Act→World→Prop)
  (pass:∀n,(∀m l a w,m<n→J m l a w→∀rest,findLabel c l=some (Code.skip.seq rest)→rest.wp P (Leaps (fun l' a' w'=>∃m',m'<n∧J m' l' a' w') Q) a w) →
   ∀l a w,J n l a w→∃rest,findLabel c l=some (Code.skip.seq rest)∧rest.wp P (Leaps (fun l' a' w'=>∃m,m<n∧J m l' a' w') Q) a w)
  (first:(∀n l a w,J n l a w→∀rest,findLabel c l=some (Code.skip.seq rest)→rest.wp P (Leaps (fun l a w=>∃n,J n l a w) Q) a w)→c.wp P (Leaps (fun l a w=>∃n,J n l a w) Q) a w):(Code.scope c).wp P Q a w:=by
 have all:∀n l a w,J n l a w→∃rest,findLabel c l=some (Code.skip.seq rest)∧rest.wp P (Leaps (fun l' a' w'=>∃m,m<n∧J m l' a' w') Q) a w:=by
  intro n
  induction n using Nat.strongRecOn with
  |_ n ih =>
   refine pass n ?_
   intro m l a w hm hJ rest hf
   obtain ⟨rest',hf',hp⟩:=ih m hm l a w hJ
   rw [hf] at hf'
   simp only [Option.some.injEq,Code.seq.injEq,true_and] at hf'
   subst hf'
   exact wp_weaker hp (leaps_weaker fun l a w ⟨m',h1,h2⟩=>⟨m',Nat.lt_trans h1 hm,h2⟩)
 refine wp_scope_labels J (first ?_) ?_
 ·intro n l a w hJ rest hf
  obtain ⟨rest',hf',hp⟩:=all n l a w hJ
  rw [hf] at hf'
  simp only [Option.some.injEq,Code.seq.injEq,true_and] at hf'
  subst hf'
  exact wp_weaker hp (leaps_weaker fun l a w ⟨m,_,hm⟩=>⟨m,hm⟩)
 ·intro n l a w hJ
  obtain ⟨rest,hf,hp⟩:=all n l a w hJ
  exact ⟨_,hf,wp_skip_seq hp⟩
end
def fr (s tk kd at_ sz:Value) (u:Nat→Value):Act:={tmps:=#[s,u 1,u 2,u 3,u 4,tk,kd,at_,sz,u 9,u 10,u 11,u 12,u 13,u 14,u 15,u 16,u 17,u 18,u 19,u 20,u 21,u 22,u 23,u 24,u 25,u 26,u 27,u 28,u 29,u 30,u 31,u 32,u 33,u 34,u 35,u 36,u 37,u 38,u 39,u 40,u 41,u 42,u 43,u 44,u 45,u 46,u 47,u 48,u 49,u 50,u 51,u 52,u 53,u 54,u 55,u 56,u 57,u 58,u 59,u 60,u 61,u 62,u 63,u 64,u 65,u 66,u 67,u 68,u 69,u 70,u 71,u 72,u 73,u 74,u 75,u 76,u 77,u 78,u 79,u 80,u 81,u 82,u 83,u 84,u 85,u 86,u 87,u 88,u 89,u 90,u 91,u 92,u 93,u 94,u 95,u 96,u 97,u 98,u 99,u 100,u 101,u 102,u 103,u 104,u 105,u 106,u 107,u 108,u 109,u 110,u 111,u 112,u 113,u 114,u 115,u 116,u 117,u 118,u 119,u 120,u 121,u 122,u 123,u 124,u 125,u 126,u 127],defers:=[]}
theorem arr_all (t:Array Value):t=((List.range t.size).map fun i=>t.getD i undef).toArray:=by
 apply Array.ext
 ·simp
 ·intro i h1 h2
  simp [Array.getD_eq_getD_getElem?,h1]
theorem fr_of {a:Act} (hd:a.defers=[]) (hs:a.tmps.size=128):a=fr (a.tmps.getD 0 undef) (a.tmps.getD 5 undef) (a.tmps.getD 6 undef) (a.tmps.getD 7 undef) (a.tmps.getD 8 undef) (fun i=>a.tmps.getD i undef):=by
 obtain ⟨t,d⟩:=a
 simp only at hd hs
 subst hd
 have h:=arr_all t
 rw [hs] at h
 unfold fr
 congr 1
def Base (w:World) (m c:Nat) (ao:Option Addr) (out:List (Int×Nat×Nat)) (wr:World):Prop :=
 out.length=m∧wr.ownsRow w.heap.size 68 3 (.slice ao m c) m (tcells out)∧Below w.heap.size w wr
def cm (zs:List Int) (k:Nat):Nat:=if k<zs.length∧¬zs.getD k 0=10 then 2 else 4
def TokAt (zs:List Int) (n k:Nat) (out:List (Int×Nat×Nat)) (kind:Int) (q:Nat):Prop :=
 (q=0∧lexR zs=([],2,(k:Int)))∨(0<q∧k+q≤n∧lexR zs=lx zs (k+q) (out++[(kind,k,q)]))
def J (zs:List Int) (g n cap:Nat) (w:World) (N l:Nat) (a:Act) (wr:World):Prop :=
 ∃(k m c:Nat) (ao:Option Addr) (out:List (Int×Nat×Nat)) (u:Nat→Value) (kd sz:Value),k≤n∧m≤k∧Base w m c ao out wr ∧
  a=fr (.slice (some ⟨g,0,none⟩) n cap) (.slice ao m c) kd (.int .i64 (k:Int)) sz u ∧
  ((l=0∧N=4*(n-k)+3∧lexR zs=lx zs k out) ∨
  (l=1∧N=4*(n-k)+2∧k<n∧blank (zs.getD k 0)=false∧digit (zs.getD k 0)=true∧lexR zs=lx zs k out) ∨
  (l=2∧N=4*(n-k)+1∧k<n∧∃(kind:Int) (q:Nat),kd=.int .i64 kind∧sz=.int .i64 (q:Int)∧TokAt zs n k out kind q) ∨
  (l=3∧N=4*(n-k)+cm zs k∧lexR zs=lx zs (k+span notLf zs k) out))
section
variable {zs:List Int} {g n cap:Nat} {w wr:World} {Q:Exit→Act→World→Prop} {a:Act} {k m c:Nat} {ao:Option Addr} {out:List (Int×Nat×Nat)} {x y:Int}
theorem fr_at (hd:a.defers=[]) (hs:a.tmps.size=128) (h0:a.tmps.getD 0 undef=.slice (some ⟨g,0,none⟩) n cap) (h5:a.tmps.getD 5 undef=.slice ao m c) (h7:a.tmps.getD 7 undef=.int .i64 x) (hx:x=(k:Int)) :
  a=fr (.slice (some ⟨g,0,none⟩) n cap) (.slice ao m c) (a.tmps.getD 6 undef) (.int .i64 (k:Int)) (a.tmps.getD 8 undef) (fun i=>a.tmps.getD i undef):=by
 have h:=fr_of hd hs
 rw [h0,h5,h7,hx] at h
 exact h
theorem j_next (hd:a.defers=[]) (hs:a.tmps.size=128) (h0:a.tmps.getD 0 undef=.slice (some ⟨g,0,none⟩) n cap) (h5:a.tmps.getD 5 undef=.slice ao m c) (h7:a.tmps.getD 7 undef=.int .i64 x) (hx:x=(k:Int))
  (hk:k≤n) (hm:m≤k) (B:Base w m c ao out wr) (R:lexR zs=lx zs k out):J zs g n cap w (4*(n-k)+3) 0 a wr :=
 ⟨k,m,c,ao,out,_,_,_,hk,hm,B,fr_at hd hs h0 h5 h7 hx,.inl ⟨rfl,rfl,R⟩⟩
theorem j_num (hd:a.defers=[]) (hs:a.tmps.size=128) (h0:a.tmps.getD 0 undef=.slice (some ⟨g,0,none⟩) n cap) (h5:a.tmps.getD 5 undef=.slice ao m c) (h7:a.tmps.getD 7 undef=.int .i64 x) (hx:x=(k:Int))
  (hk:k<n) (hm:m≤k) (B:Base w m c ao out wr) (hb:blank (zs.getD k 0)=false) (hdg:digit (zs.getD k 0)=true) (R:lexR zs=lx zs k out):J zs g n cap w (4*(n-k)+2) 1 a wr :=
 ⟨k,m,c,ao,out,_,_,_,Nat.le_of_lt hk,hm,B,fr_at hd hs h0 h5 h7 hx,.inr (.inl ⟨rfl,rfl,hk,hb,hdg,R⟩)⟩
theorem j_tok {kind z:Int} {q:Nat} (hd:a.defers=[]) (hs:a.tmps.size=128) (h0:a.tmps.getD 0 undef=.slice (some ⟨g,0,none⟩) n cap) (h5:a.tmps.getD 5 undef=.slice ao m c) (h7:a.tmps.getD 7 undef=.int .i64 x) (hx:x=(k:Int))
  (h6:a.tmps.getD 6 undef=.int .i64 kind) (h8:a.tmps.getD 8 undef=.int .i64 z) (hz:z=(q:Int)) (hk:k<n) (hm:m≤k) (B:Base w m c ao out wr) (R:TokAt zs n k out kind q):J zs g n cap w (4*(n-k)+1) 2 a wr :=
 ⟨k,m,c,ao,out,_,_,_,Nat.le_of_lt hk,hm,B,fr_at hd hs h0 h5 h7 hx,.inr (.inr (.inl ⟨rfl,rfl,hk,kind,q,h6,by rw [h8,hz],R⟩))⟩
theorem j_com (hd:a.defers=[]) (hs:a.tmps.size=128) (h0:a.tmps.getD 0 undef=.slice (some ⟨g,0,none⟩) n cap) (h5:a.tmps.getD 5 undef=.slice ao m c) (h7:a.tmps.getD 7 undef=.int .i64 x) (hx:x=(k:Int))
  (hk:k≤n) (hm:m≤k) (B:Base w m c ao out wr) (R:lexR zs=lx zs (k+span notLf zs k) out):J zs g n cap w (4*(n-k)+cm zs k) 3 a wr :=
 ⟨k,m,c,ao,out,_,_,_,hk,hm,B,fr_at hd hs h0 h5 h7 hx,.inr (.inr (.inr ⟨rfl,rfl,R⟩))⟩
end
theorem tokAt_of {zs:List Int} {n k q:Nat} {out:List (Int×Nat×Nat)} {kind:Int} (hb:Bts zs) (hl:zs.length=n) (hk:k<n) (hbl:blank (zs.getD k 0)=false) (hnc:¬(zs.getD k 0=45∧k+1<zs.length∧zs.getD (k+1) 0=45))
  (hT:tokK zs k=(kind,q,0)) (R:lexR zs=lx zs k out):TokAt zs n k out kind q:=by
 have hk':k<zs.length:=by omega
 have f:=tok_fits hb hk' (by rw [hT])
 rw [hT] at f
 refine .inr ⟨f.1,by rw [← hl];exact f.2,?_⟩
 rw [R,lx_tok hk' hbl hnc (by rw [hT]) (by rw [hT];exact f.1),hT]
theorem tokAt_bad {zs:List Int} {n k:Nat} {out:List (Int×Nat×Nat)} {kind:Int} (hl:zs.length=n) (hk:k<n) (hbl:blank (zs.getD k 0)=false) (hnc:¬(zs.getD k 0=45∧k+1<zs.length∧zs.getD (k+1) 0=45))
  (hT:tokK zs k=(0,0,2)) (R:lexR zs=lx zs k out):TokAt zs n k out kind 0:=by
 refine .inl ⟨rfl,?_⟩
 rw [R,lx_bad (by omega) hbl hnc (by rw [hT];simp),hT]
theorem digit_not_letter {c:Int} (h:digit c=true):letter c=false:=by
 unfold digit at h
 simp only [Bool.and_eq_true,decide_eq_true_eq] at h
 exact letter_no (by omega)
theorem digit_ne {c:Int} (h:digit c=true):¬c=45:=by
 unfold digit at h
 simp only [Bool.and_eq_true,decide_eq_true_eq] at h
 omega
theorem letter_ne {c:Int} (h:letter c=true):¬c=45∧¬c=34∧¬c=39:=by
 unfold letter at h
 simp only [Bool.or_eq_true,Bool.and_eq_true,decide_eq_true_eq,beq_iff_eq] at h
 omega
theorem tok_of_letter {zs:List Int} {k:Nat} (h:letter (zs.getD k 0)=true):tokK zs k=(wkind (strOfNums (part zs k (span alnum zs k))),span alnum zs k,0):=by
 unfold tokK wkind;rw [if_pos h];split <;> rfl
theorem tok_of_digit {zs:List Int} {k:Nat} (h:digit (zs.getD k 0)=true):tokK zs k=(2,span alnum zs k,(scan (part zs k (span alnum zs k))).2):=by
 unfold tokK;rw [if_neg (by rw [digit_not_letter h];decide),if_pos h]
theorem tok_of_quote {zs:List Int} {k:Nat} (h1:letter (zs.getD k 0)=false) (h2:digit (zs.getD k 0)=false) (hq:zs.getD k 0=34∨zs.getD k 0=39):tokK zs k=ofLit k (litAt zs k):=by
 unfold tokK;rw [if_neg (by rw [h1];decide),if_neg (by rw [h2];decide),if_pos hq]
theorem tok_of_sign {zs:List Int} {k:Nat} (h1:letter (zs.getD k 0)=false) (h2:digit (zs.getD k 0)=false) (hq:¬(zs.getD k 0=34∨zs.getD k 0=39)):tokK zs k=ofSign (signLen zs k signs):=by
 unfold tokK;rw [if_neg (by rw [h1];decide),if_neg (by rw [h2];decide),if_neg hq]
theorem part_drop (zs:List Int) (k m:Nat):part (zs.drop k) 0 m=part zs k m:=by unfold part;rw [List.drop_zero]
theorem cm_go {zs:List Int} {k:Nat} (h:k<zs.length) (h1:¬zs.getD k 0=10):cm zs k=2:=by unfold cm;rw [if_pos ⟨h,h1⟩]
theorem cm_end {zs:List Int} {k:Nat} (h:¬(k<zs.length∧¬zs.getD k 0=10)):cm zs k=4:=by unfold cm;rw [if_neg h]
theorem cm_le (zs:List Int) (k:Nat):cm zs k≤4:=by unfold cm;split <;> omega
theorem implLex_small (g n cap:Nat) (zs:List Int) (w:World) (hb:Bts zs) (hcell:∀i,i<zs.length→w.cell? ⟨g,i,none⟩=some (.int .u8 (zs.getD i 0))) (hl:zs.length=n) (hgw0:0<n→g<w.heap.size) (hm:cap≤9223372036854775807) (hcap:n≤cap) (h6:n≤6000) :
  Calls Tryz.prog 40 #[.slice (some ⟨g,0,none⟩) n cap] w (LexPost zs (lexR zs).1.length w):=by
 obtain ⟨i0,hi,hz0,hz1,hz2⟩:=info_parts info_tok
 have HR0:Hid (lexR zs=lx zs 0 []):=by show _=_;unfold lexR;rw [if_neg (by omega)]
 have HL:Hid (zs.length=n):=hl
 have HB:Hid (Bts zs):=hb
 have HC:Hid (∀i,i<zs.length→w.cell? ⟨g,i,none⟩=some (.int .u8 (zs.getD i 0))):=hcell
 have HG:Hid (0<n→g<w.heap.size):=hgw0
 clear hl hb hcell hgw0
 obtain ⟨P,hP⟩:∃P,P=LexPost zs (lexR zs).1.length w:=⟨_,rfl⟩
 rw [← hP]
 have HP:Hid (P=LexPost zs (lexR zs).1.length w):=hP
 clear hP
 go_enter Tryz.func40,Tryz.ntmps40
 go_wp2
 refine wp_scope_enter (J zs g n cap w) ?pass ?first
 case first =>
  intro HF0
  have HF:Hid _:=HF0
  clear HF0
  go_wp2
  go_step3
  rename_i hK
  refine hK _ _ (HF.out (4*(n-0)+3) 0 _ _ ?_ _ rfl)
  exact j_next (k:=0) (m:=0) (c:=0) (ao:=none) (out:=[]) rfl rfl rfl rfl rfl rfl (by omega) (by omega) ⟨rfl,World.ownsRow_nil _ _ _ _,Below.refl _ _⟩ HR0.out
 case pass =>
  rintro N IH l a wr ⟨k,m,c,ao,out,u,kd,sz,hk,hmk,B,rfl,hor⟩
  have HI:Hid _:=IH
  clear IH
  have HBs:Hid (Base w m c ao out wr):=B
  clear B
  have HCW:Hid (∀i,i<n→wr.cell? ⟨g,i,none⟩=some (.int .u8 (zs.getD i 0))):=fun i hi=>(HBs.out.2.2.cell (p:=⟨g,i,none⟩) (HG.out (by omega))).trans (HC.out i (by rw [HL.out];exact hi))
  have HCD:Hid (∀i,i<(zs.drop k).length→wr.cell? ⟨g,k+i,none⟩=some (.int .u8 ((zs.drop k).getD i 0))):=by
   intro i hi
   rw [getD_drop]
   rw [List.length_drop,HL.out] at hi
   exact HCW.out (k+i) (by omega)
  have HLD:Hid ((zs.drop k).length=n-k):=by show _=_;rw [List.length_drop,HL.out]
  rcases hor with ⟨rfl,rfl,R⟩|⟨rfl,rfl,hkn,hbl,hdg,R⟩|⟨rfl,rfl,hkn,kind,q,rfl,rfl,R⟩|⟨rfl,rfl,R⟩
  ·have HR:Hid (lexR zs=lx zs k out):=R
   clear R
   refine ⟨_,rfl,?_⟩
   unfold fr
   by_cases hkn:k<n
   ·have hc:=HCW.out k hkn
    have HZB:=HB.out k
    obtain ⟨z,hz⟩:∃z,z=zs.getD k 0:=⟨_,rfl⟩
    rw [← hz] at hc HZB
    have HZ:Hid (zs.getD k 0=z):=hz.symm
    clear hz
    obtain ⟨hz0',hz1'⟩:=HZB
    have hne:((k:Int)==(n:Int))=false:=by simp;omega
    have CB:=isBlank_any z wr
    have CD:=isDigit_any z wr
    have CA:=isWordByte_any z wr
    cases hbl:blank z with
    |true =>
     rw [hbl] at CB
     go_wp2_with fail
     refine CB.mono ?_
     rintro e w' ⟨rfl,hw⟩
     replace hw:=hw.symm
     subst hw
     go_wp2_with fail
     go_step3
     show ∃m',m'<4*(n-k)+3∧J zs g n cap w m' 0 _ _
     exact ⟨_,by omega,j_next (k:=k+1) rfl rfl rfl rfl rfl (by omega) (by omega) (by omega) HBs.out (by rw [HR.out,lx_blank (by rw [HL.out];exact hkn) (by rw [HZ.out];exact hbl)])⟩
    |false =>
     rw [hbl] at CB
     have HNB:Hid (blank (zs.getD k 0)=false):=by show _=_;rw [HZ.out];exact hbl
     go_wp2_with fail
     refine CB.mono ?_
     rintro e w' ⟨rfl,hw⟩
     replace hw:=hw.symm
     subst hw
     clear CB
     cases hdg:digit z with
     |true =>
      rw [hdg] at CD
      go_wp2_with fail
      refine CD.mono ?_
      rintro e w' ⟨rfl,hw⟩
      replace hw:=hw.symm
      subst hw
      clear CD
      go_wp2_with fail
      go_step3
      show ∃m',m'<4*(n-k)+3∧J zs g n cap w m' 1 _ _
      exact ⟨_,by omega,j_num (k:=k) rfl rfl rfl rfl rfl rfl hkn hmk HBs.out HNB.out (by rw [HZ.out];exact hdg) HR.out⟩
     |false =>
      rw [hdg] at CD
      go_wp2_with fail
      refine CD.mono ?_
      rintro e w' ⟨rfl,hw⟩
      replace hw:=hw.symm
      subst hw
      clear CD
      cases hlt:letter z with
      |true =>
       have hal:alnum z=true:=by unfold alnum;rw [hlt];rfl
       rw [hal] at CA
       go_wp2_with fail
       refine CA.mono ?_
       rintro e w' ⟨rfl,hw⟩
       replace hw:=hw.symm
       subst hw
       clear CA
       have CW:=readWord_any g k (cap-k) (n-k) (zs.drop k) wr HCD.out HLD.out (by omega) (by omega)
       rw [span_drop,part_drop] at CW
       have HT:Hid (TokAt zs n k out (wkind (strOfNums (part zs k (span alnum zs k)))) (span alnum zs k)) :=
        tokAt_of HB.out HL.out hkn HNB.out (fun h=>(letter_ne hlt).1 (by rw [← HZ.out];exact h.1)) (tok_of_letter (by rw [HZ.out];exact hlt)) HR.out
       generalize wkind (strOfNums (part zs k (span alnum zs k)))=kind at CW HT
       generalize span alnum zs k=q at CW HT
       go_wp2_with fail
       refine CW.mono ?_
       rintro e w' ⟨rfl,hw⟩
       replace hw:=hw.symm
       subst hw
       clear CW
       go_wp2_with fail
       go_step3
       show ∃m',m'<4*(n-k)+3∧J zs g n cap w m' 2 _ _
       exact ⟨_,by omega,j_tok (k:=k) (q:=q) (kind:=kind) rfl rfl rfl rfl rfl rfl rfl rfl rfl hkn hmk HBs.out HT.out⟩
      |false =>
       have hal:alnum z=false:=by unfold alnum;rw [hlt,hdg];rfl
       rw [hal] at CA
       go_wp2_with fail
       refine CA.mono ?_
       rintro e w' ⟨rfl,hw⟩
       replace hw:=hw.symm
       subst hw
       clear CA
       by_cases hq:z=34∨z=39
       ·have HTQ:Hid (tokK zs k=ofLit k (litAt zs k)):=tok_of_quote (by rw [HZ.out];exact hlt) (by rw [HZ.out];exact hdg) (by rw [HZ.out];exact hq)
        have HNC:Hid (¬(zs.getD k 0=45∧k+1<zs.length∧zs.getD (k+1) 0=45)):=fun h=>by have:=HZ.out;omega
        have CL:=readLit_any g k (cap-k) (zs.drop k) wr (HB.out.drop k) HCD.out (Nat.lt_of_lt_of_le (HG.out (by omega)) HBs.out.2.2.size) (by rw [HLD.out];omega) (by omega) (by rw [HLD.out];omega) (by rw [getD_drop,Nat.add_zero,HZ.out];exact hq) (by rw [HLD.out];omega)
        rw [HLD.out] at CL
        have HLA:=litAt_drop HB.out (show k<zs.length by rw [HL.out];exact hkn)
        have HLB:Hid _:=HLA
        clear HLA
        have walked:(z==39)=true∨((z==39)=false∧(z==34)=true):=by
         rcases hq with rfl|rfl
         ·exact .inr ⟨rfl,rfl⟩
         ·exact .inl rfl
        clear hq
        rcases walked with e39|⟨e39,e34⟩
        all_goals
         go_wp2_with fail
         refine CL.mono ?_
         rintro x w1 ⟨hb1,hor⟩
         clear CL
         have HB1:Hid (Base w m c ao out w1):=⟨HBs.out.1,own_belowT HBs.out.2.1 hb1 (fun g h=>(HBs.out.2.1.lt g h).2),HBs.out.2.2.trans (hb1.mono HBs.out.2.2.size)⟩
         clear hb1
         rcases hor with ⟨hn,rfl⟩|⟨t,e,ao',c',hs,rfl,hown⟩
         ·have HT:Hid (TokAt zs n k out 3 0):=tokAt_bad HL.out hkn HNB.out HNC.out (by rw [HTQ.out,HLB.out,hn];rfl) HR.out
          clear hn
          go_wp2_with fail
          go_step3
          show ∃m',m'<4*(n-k)+3∧J zs g n cap w m' 2 _ _
          exact ⟨_,by omega,j_tok (k:=k) (q:=0) (kind:=3) rfl rfl rfl rfl rfl rfl rfl rfl rfl hkn hmk HB1.out HT.out⟩
         ·have HT:Hid (TokAt zs n k out 3 e):=tokAt_of HB.out HL.out hkn HNB.out HNC.out (by rw [HTQ.out,HLB.out,hs];show (3,k+e-k,(0:Int))=_;rw [Nat.add_sub_cancel_left]) HR.out
          clear hs hown
          go_wp2_with fail
          go_step3
          show ∃m',m'<4*(n-k)+3∧J zs g n cap w m' 2 _ _
          exact ⟨_,by omega,j_tok (k:=k) (q:=e) (kind:=3) rfl rfl rfl rfl rfl rfl rfl rfl rfl hkn hmk HB1.out HT.out⟩
       ·have HTS:Hid (tokK zs k=ofSign (signLen zs k signs)):=tok_of_sign (by rw [HZ.out];exact hlt) (by rw [HZ.out];exact hdg) (by rw [HZ.out];exact hq)
        have e39:(z==39)=false:=by simp;omega
        have e34:(z==34)=false:=by simp;omega
        clear hq
        have CS:=readSign_any z wr
        have HSf:=sgn_fst z
        have HS1:Hid (∀s1 s2:Int,sgn z=(s1,s2)→(s2=0∨n≤k+1∨¬zs.getD (k+1) 0=s2)→TokAt zs n k out 5 s1.toNat):=by
         intro s1 s2 hs hw
         have h1:=sign_short HB.out (k:=k) (by rw [HL.out];exact hkn) (by rw [HZ.out,HL.out,hs];exact hw)
         rw [HZ.out,hs] at h1
         rw [hs] at HSf
         have hnc:¬(zs.getD k 0=45∧k+1<zs.length∧zs.getD (k+1) 0=45):=by
          rintro ⟨a,b,c⟩
          rw [HZ.out] at a
          subst a
          have e:s2=45:=by have:sgn 45=(1,45):=rfl;rw [this] at hs;simp only [Prod.mk.injEq] at hs;exact hs.2.symm
          rw [HL.out] at b
          omega
         rcases HSf with f|f
         ·simp only at f
          subst f
          exact tokAt_bad HL.out hkn HNB.out hnc (by rw [HTS.out,h1];rfl) HR.out
         ·simp only at f
          subst f
          exact tokAt_of HB.out HL.out hkn HNB.out hnc (by rw [HTS.out,h1];rfl) HR.out
        have HS2:Hid (∀s1 s2:Int,sgn z=(s1,s2)→¬s2=0→k+1<n→zs.getD (k+1) 0=s2→¬s2=45→TokAt zs n k out 5 2):=by
         intro s1 s2 hs h0 hk1 hy h45
         have h1:=sign_long HB.out (k:=k) (by rw [HL.out];exact hk1) (by rw [HZ.out,hs];exact h0) (by rw [HZ.out,hs];exact hy) (by rw [HZ.out,hs];exact h45)
         refine tokAt_of HB.out HL.out hkn HNB.out ?_ (by rw [HTS.out,h1];rfl) HR.out
         rintro ⟨a,_,b⟩
         exact h45 (hy.symm.trans b)
        have HS3:Hid (∀s1 s2:Int,sgn z=(s1,s2)→k+1<n→zs.getD (k+1) 0=s2→s2=45→lexR zs=lx zs (k+span notLf zs k) out∧z=45):=by
         intro s1 s2 hs hk1 hy h45
         have e:=sgn_dash (c:=z) (by rw [hs];exact h45)
         exact ⟨by rw [HR.out,lx_comment (by rw [HL.out];exact hkn) HNB.out ⟨by rw [HZ.out];exact e,by rw [HL.out];exact hk1,by rw [hy];exact h45⟩],e⟩
        obtain ⟨⟨s1,s2⟩,hsg⟩:∃p,p=sgn z:=⟨_,rfl⟩
        rw [← hsg] at CS HSf
        have HSG:Hid (sgn z=(s1,s2)):=hsg.symm
        clear hsg
        have hs1:s1=((s1.toNat:Nat):Int):=by simp only at HSf;omega
        have HS1':Hid (s1=((s1.toNat:Nat):Int)):=hs1
        clear hs1 HSf
        by_cases h20:s2=0
        ·have HT:=HS1.out s1 s2 HSG.out (.inl h20)
         have HT':Hid _:=HT
         clear HT
         subst h20
         go_wp2_with fail
         refine CS.mono ?_
         rintro e w' ⟨rfl,hw⟩
         replace hw:=hw.symm
         subst hw
         clear CS
         go_wp2_with fail
         go_step3
         show ∃m',m'<4*(n-k)+3∧J zs g n cap w m' 2 _ _
         exact ⟨_,by omega,j_tok (k:=k) (q:=s1.toNat) (kind:=5) rfl rfl rfl rfl rfl rfl rfl rfl HS1'.out hkn hmk HBs.out HT'.out⟩
        ·have e20:(s2==0)=false:=by simp;exact h20
         by_cases hk1:k+1<n
         ·have hc1:=HCW.out (k+1) hk1
          have hkne:(((k:Int)+1)==(n:Int))=false:=by simp;omega
          by_cases hy:zs.getD (k+1) 0=s2
          ·rw [hy] at hc1
           by_cases h45:s2=45
           ·have HT:=HS3.out s1 s2 HSG.out hk1 hy h45
            have HT':Hid _:=HT
            clear HT hy h20
            subst h45
            go_wp2_with fail
            refine CS.mono ?_
            rintro e w' ⟨rfl,hw⟩
            replace hw:=hw.symm
            subst hw
            clear CS
            go_wp2_with fail
            go_step3
            show ∃m',m'<4*(n-k)+3∧J zs g n cap w m' 3 _ _
            exact ⟨_,by rw [cm_go (by rw [HL.out];exact hkn) (by rw [HZ.out,HT'.out.2];decide)];omega,j_com (k:=k) rfl rfl rfl rfl rfl rfl hk hmk HBs.out HT'.out.1⟩
           ·have HT:=HS2.out s1 s2 HSG.out h20 hk1 hy h45
            have HT':Hid _:=HT
            clear HT hy
            have e45:(s2==45)=false:=by simp;exact h45
            go_wp2_with fail
            refine CS.mono ?_
            rintro e w' ⟨rfl,hw⟩
            replace hw:=hw.symm
            subst hw
            clear CS
            go_wp2_with fail
            go_step3
            rename_i hK
            refine hK _ _ (HI.out (4*(n-k)+1) 2 _ _ (by omega) ?_ _ rfl)
            exact j_tok (k:=k) (q:=2) (kind:=5) rfl rfl rfl rfl rfl rfl rfl rfl rfl hkn hmk HBs.out HT'.out
          ·have HT:=HS1.out s1 s2 HSG.out (.inr (.inr hy))
           have HT':Hid _:=HT
           clear HT
           obtain ⟨y,hyy⟩:∃y,y=zs.getD (k+1) 0:=⟨_,rfl⟩
           rw [← hyy] at hc1 hy
           clear hyy
           have ey:(y != s2)=true:=bne_iff_ne.mpr hy
           go_wp2_with fail
           refine CS.mono ?_
           rintro e w' ⟨rfl,hw⟩
           replace hw:=hw.symm
           subst hw
           clear CS
           go_wp2_with fail
           go_step3
           show ∃m',m'<4*(n-k)+3∧J zs g n cap w m' 2 _ _
           exact ⟨_,by omega,j_tok (k:=k) (q:=s1.toNat) (kind:=5) rfl rfl rfl rfl rfl rfl rfl rfl HS1'.out hkn hmk HBs.out HT'.out⟩
         ·have HT:=HS1.out s1 s2 HSG.out (.inr (.inl (by omega)))
          have HT':Hid _:=HT
          clear HT
          have hkne:(((k:Int)+1)==(n:Int))=true:=by simp;omega
          go_wp2_with fail
          refine CS.mono ?_
          rintro e w' ⟨rfl,hw⟩
          replace hw:=hw.symm
          subst hw
          clear CS
          go_wp2_with fail
          go_step3
          show ∃m',m'<4*(n-k)+3∧J zs g n cap w m' 2 _ _
          exact ⟨_,by omega,j_tok (k:=k) (q:=s1.toNat) (kind:=5) rfl rfl rfl rfl rfl rfl rfl rfl HS1'.out hkn hmk HBs.out HT'.out⟩
   ·have hkn':k=n:=by omega
    subst hkn'
    have HE:Hid (lexR zs=(out,0,0)):=by show _=_;rw [HR.out,lx_end (by rw [HL.out];exact hkn)]
    go_wp2
    first|(rw [Leaps_ret];go_ret3)|skip
    rw [HP.out]
    exact lex_post HE.out HBs.out.1 HBs.out.2.2 HBs.out.2.1
  ·have HR:Hid (lexR zs=lx zs k out):=R
   have HNB:Hid (blank (zs.getD k 0)=false):=hbl
   have HDG:Hid (digit (zs.getD k 0)=true):=hdg
   clear R hbl hdg
   refine ⟨_,rfl,?_⟩
   unfold fr
   have HNC:Hid (¬(zs.getD k 0=45∧k+1<zs.length∧zs.getD (k+1) 0=45)):=fun h=>digit_ne HDG.out h.1
   have HTD:Hid (tokK zs k=(2,span alnum zs k,(scan (part zs k (span alnum zs k))).2)):=tok_of_digit HDG.out
   have hle:=span_le alnum zs k
   rw [HL.out] at hle
   have CR:=runSize_any g k (cap-k) (n-k) (zs.drop k) wr HCD.out HLD.out (by omega)
   rw [span_drop] at CR
   have SC:=(scan_any g k (cap-k) (part zs k (span alnum zs k)) (part_bts HB.out _ _) wr (fun i hi=>by
    rw [part_len (by rw [HL.out];omega)] at hi
    exact ⟨g,k,rfl,by rw [part_getD hi];exact HCW.out (k+i) (by omega)⟩) (by rw [part_len (by rw [HL.out];omega)];omega) (by omega) (by rw [part_len (by rw [HL.out];omega)];omega)).2
   rw [part_len (by rw [HL.out];omega)] at SC
   obtain ⟨⟨p1,p2⟩,hp⟩:∃p,p=scan (part zs k (span alnum zs k)):=⟨_,rfl⟩
   rw [← hp] at SC HTD
   clear hp
   generalize span alnum zs k=q at CR SC HTD hle
   by_cases hp2:p2=0
   ·subst hp2
    have HT:Hid (TokAt zs n k out 2 q):=tokAt_of HB.out HL.out hkn HNB.out HNC.out HTD.out HR.out
    go_wp2_with fail
    refine CR.mono ?_
    rintro e w' ⟨rfl,hw⟩
    replace hw:=hw.symm
    subst hw
    clear CR
    go_wp2_with fail
    refine SC.mono ?_
    rintro e w' ⟨rfl,hw⟩
    replace hw:=hw.symm
    subst hw
    clear SC
    go_wp2_with fail
    go_step3
    show ∃m',m'<4*(n-k)+2∧J zs g n cap w m' 2 _ _
    exact ⟨_,by omega,j_tok (k:=k) (q:=q) (kind:=2) rfl rfl rfl rfl rfl rfl rfl rfl rfl hkn hmk HBs.out HT.out⟩
   ·have hne:(p2 != 0)=true:=bne_iff_ne.mpr hp2
    have HE:Hid (lexR zs=([],p2,(k:Int))):=by show _=_;rw [HR.out,lx_bad (by rw [HL.out];exact hkn) HNB.out HNC.out (by rw [HTD.out];exact hp2),HTD.out]
    go_wp2_with fail
    refine CR.mono ?_
    rintro e w' ⟨rfl,hw⟩
    replace hw:=hw.symm
    subst hw
    clear CR
    go_wp2_with fail
    refine SC.mono ?_
    rintro e w' ⟨rfl,hw⟩
    replace hw:=hw.symm
    subst hw
    clear SC
    go_wp2_with fail
    first|(rw [Leaps_ret];go_ret3)|skip
    rw [HP.out]
    exact lex_post HE.out rfl HBs.out.2.2 (World.ownsRow_nil _ _ _ _)
  ·have HR:Hid (TokAt zs n k out kind q):=R
   clear R
   refine ⟨_,rfl,?_⟩
   unfold fr
   rcases HR.out with ⟨rfl,R⟩|⟨hq1,hq2,R⟩
   ·have HE:Hid (lexR zs=([],2,(k:Int))):=R
    clear R
    go_wp2
    first|(rw [Leaps_ret];go_ret3)|skip
    rw [HP.out]
    exact lex_post HE.out rfl HBs.out.2.2 (World.ownsRow_nil _ _ _ _)
   ·have HE:Hid (lexR zs=lx zs (k+q) (out++[(kind,k,q)])):=R
    clear R
    have hq0:((q:Int)==0)=false:=by simp;omega
    have hbu:∀w:World,(Instr.build 68 #[(0,.int .i64 kind),(1,.int .i64 (k:Int)),(2,.int .i64 (q:Int))]).run Tryz.prog w=.ok (.agg #[.int .i64 kind,.int .i64 (k:Int),.int .i64 (q:Int)]) w:=fun _=>by kernel_rfl
    have hmb:m≤6000:=by omega
    have hBs:=HBs.out.2.2.size
    have hown1:=HBs.out.2.1
    have hgB:∀k,(Value.slice ao m c).ownBlock=some k→w.heap.size≤k:=fun k hk=>(hown1.lt k hk).1
    go_wp2_with (at_builtin;refine wpList_append_lies _ rfl _ _ _ rfl w.heap.size 68 i0 (.agg #[.int .i64 0,.int .i64 0,.int .i64 0]) 3 24 Tryz.underlying32 hi hz0 hz1 hz2 rfl (by omega) _ m (tcells out) rfl (hown1.alloc _) ⟨wr.heap.size,0,none⟩ 1 1 [.int .i64 kind,.int .i64 (k:Int),.int .i64 (q:Int)] rfl rfl (World.news_of_block (cs:=#[.int .i64 kind,.int .i64 (k:Int),.int .i64 (q:Int)]) (t:=68) (fr:=(0,0)) (heap_alloc_new wr _)) (by simp [Value.oneCell']) (by omega) (by unfold maxLen;omega) (by omega) (by simp;omega) (wr.heap.size+1) (by simp) ?_;intro g' cap' w2 hown2 hgrow hat hlt2)
    go_step3
    show ∃m',m'<4*(n-k)+1∧J zs g n cap w m' 0 _ _
    exact ⟨_,by omega,j_next (k:=k+q) (m:=m+1) (c:=cap') (ao:=some ⟨g',0,none⟩) (out:=out++[(kind,k,q)]) rfl rfl rfl rfl rfl (by omega) (by omega) (by omega) ⟨by rw [List.length_append,HBs.out.1];rfl,by rw [tcells_snoc];exact hown2,(HBs.out.2.2.alloc (by omega) _).grown hgrow (by simp;omega) hgB⟩ HE.out⟩
  ·have HR:Hid (lexR zs=lx zs (k+span notLf zs k) out):=R
   clear R
   refine ⟨_,rfl,?_⟩
   unfold fr
   by_cases hkn:k<n
   ·have hc:=HCW.out k hkn
    have hne:((k:Int)==(n:Int))=false:=by simp;omega
    by_cases h10:zs.getD k 0=10
    ·have HM:Hid (cm zs k=4):=cm_end (fun h=>h.2 h10)
     have HS:Hid (span notLf zs k=0):=span_stop (by rw [h10];rfl)
     rw [h10] at hc
     clear h10
     go_wp2
     go_step3
     show ∃m',m'<4*(n-k)+cm zs k∧J zs g n cap w m' 0 _ _
     exact ⟨_,by rw [HM.out];omega,j_next (k:=k) rfl rfl rfl rfl rfl rfl hk hmk HBs.out (by rw [HR.out,HS.out,Nat.add_zero])⟩
    ·have HM:Hid (cm zs k=2):=cm_go (by rw [HL.out];exact hkn) h10
     have HS:Hid (k+span notLf zs k=(k+1)+span notLf zs (k+1)):=by show _=_;rw [span_step (by rw [HL.out];exact hkn) (by unfold notLf;exact bne_iff_ne.mpr h10)];omega
     obtain ⟨y,hy⟩:∃y,y=zs.getD k 0:=⟨_,rfl⟩
     rw [← hy] at hc h10
     clear hy
     have hy10:(y==10)=false:=by simp;exact h10
     go_wp2
     go_step3
     show ∃m',m'<4*(n-k)+cm zs k∧J zs g n cap w m' 3 _ _
     exact ⟨_,by rw [HM.out];have:=cm_le zs (k+1);omega,j_com (k:=k+1) rfl rfl rfl rfl rfl (by omega) (by omega) (by omega) HBs.out (by rw [HR.out,HS.out])⟩
   ·have HM:Hid (cm zs k=4):=cm_end (fun h=>absurd h.1 (by rw [HL.out];exact hkn))
    have HS:Hid (span notLf zs k=0):=span_end (by rw [HL.out];omega)
    have hkn':k=n:=by omega
    subst hkn'
    go_wp2
    go_step3
    show ∃m',m'<4*(k-k)+cm zs k∧J zs g k cap w m' 0 _ _
    exact ⟨_,by rw [HM.out];omega,j_next (k:=k) rfl rfl rfl rfl rfl rfl hk hmk HBs.out (by rw [HR.out,HS.out,Nat.add_zero])⟩
theorem implLex_long (ao:Option Addr) (n cap:Nat) (zs:List Int) (w:World) (hl:zs.length=n) (h6:6000<n) :
  Calls Tryz.prog 40 #[.slice ao n cap] w (LexPost zs (lexR zs).1.length w):=by
 have HE:Hid (lexR zs=([],4,6000)):=by show _=_;unfold lexR;rw [if_pos (by omega)]
 obtain ⟨P,hP⟩:∃P,P=LexPost zs (lexR zs).1.length w:=⟨_,rfl⟩
 rw [← hP]
 have HP:Hid (P=LexPost zs (lexR zs).1.length w):=hP
 clear hP hl
 go_enter Tryz.func40,Tryz.ntmps40
 go_wp2
 go_step3
 go_wp2
 first|(rw [Exit.noGoto_ret];go_ret3)|skip
 rw [HP.out]
 exact lex_post HE.out rfl (Below.refl _ _) (World.ownsRow_nil _ _ _ _)
theorem implLex_any (g n cap:Nat) (zs:List Int) (w:World) (hb:Bts zs) (hr:Rd w (some ⟨g,0,none⟩) zs) (hl:zs.length=n) (hm:cap≤9223372036854775807) (hcap:n≤cap) :
  Calls Tryz.prog 40 #[.slice (some ⟨g,0,none⟩) n cap] w (LexPost zs (lexR zs).1.length w):=by
 by_cases h6:n≤6000
 ·refine implLex_small g n cap zs w hb ?_ hl ?_ hm hcap h6
  ·intro i hi
   obtain ⟨b,off,e,hbw,hcell⟩:=hr.at (by omega)
   simp only [Option.some.injEq,Addr.mk.injEq,and_true] at e
   obtain ⟨rfl,rfl⟩:=e
   have:=hcell i hi
   rwa [Nat.zero_add] at this
  ·intro h0
   obtain ⟨b,off,e,hbw,hcell⟩:=hr.at (by omega)
   simp only [Option.some.injEq,Addr.mk.injEq,and_true] at e
   rw [e.1];exact hbw
 ·exact implLex_long _ n cap zs w hl (by omega)
theorem implLex_nil (w:World):Calls Tryz.prog 40 #[.slice none 0 0] w (LexPost [] (lexR []).1.length w):=by
 have HE:Hid (lexR []=([],0,0)):=by show _=_;unfold lexR;rw [if_neg (by decide),lx_end (by decide)]
 obtain ⟨P,hP⟩:∃P,P=LexPost [] (lexR []).1.length w:=⟨_,rfl⟩
 rw [← hP]
 have HP:Hid (P=LexPost [] (lexR []).1.length w):=hP
 clear hP
 go_enter Tryz.func40,Tryz.ntmps40
 go_wp2
 refine wp_scope_enter (fun N l a wr=>N=0∧l=0∧wr=w∧∃kd sz u,a=fr (.slice none 0 0) (.slice none 0 0) kd (.int .i64 0) sz u) ?pass ?first
 case first =>
  intro HF0
  have HF:Hid _:=HF0
  clear HF0
  go_wp2
  go_step3
  rename_i hK
  exact hK _ _ (HF.out 0 0 _ _ ⟨rfl,rfl,rfl,_,_,_,fr_of rfl rfl⟩ _ rfl)
 case pass =>
  rintro N IH l a wr ⟨rfl,rfl,rfl,kd,sz,u,rfl⟩
  clear IH
  refine ⟨_,rfl,?_⟩
  unfold fr
  go_wp2
  first|(rw [Leaps_ret];go_ret3)|skip
  rw [HP.out]
  exact lex_post HE.out rfl (Below.refl _ _) (World.ownsRow_nil _ _ _ _)
end lex
end Go.Proofs.YtkmiagkehcflnaaGreatDoor
