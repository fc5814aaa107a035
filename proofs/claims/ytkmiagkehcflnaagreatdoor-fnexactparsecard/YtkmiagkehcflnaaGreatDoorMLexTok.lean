import Derived.BigQuiet
import Derived.Deep.QuietTactic
import Derived.Test.YtkmiagkehcflnaaGreatDoorMScanMore
import Derived.Test.YtkmiagkehcflnaaGreatDoorMSpecLitA
import Derived.Test.YtkmiagkehcflnaaGreatDoorMTrLc
set_option maxRecDepth 100000
set_option maxHeartbeats 8000000
namespace Go.Proofs.YtkmiagkehcflnaaGreatDoor
namespace lit
open Go.RowKit bts scn
def LitPost (zs:List Int) (k:Nat) (w:World) (x:Ending) (w':World):Prop:=Below w.heap.size w w' ∧
   ((litAt zs k=none∧x=.returned (.tuple #[.slice none 0 0,.int .i64 0])) ∨
   ∃t e ao c,litAt zs k=some (t,e)∧x=.returned (.tuple #[.slice ao t.length c,.int .i64 ((e:Int)-(k:Int))])∧OwnT w' w.heap.size ao c t)
theorem specLit_short (ao:Option Addr) (n cap k:Nat) (w:World) (h:n≤k) (_hn:n≤1073741824) (_hk:k≤1073741824) :
  Calls Tryz.prog 53 #[.slice ao n cap,.int .i64 k] w fun x w'=>x=.returned (.tuple #[.slice none 0 0,.int .i64 0])∧w'=w:=by
 go_enter Tryz.func53,Tryz.ntmps53
 go_wp2
 go_ret2
 exact ⟨rfl,rfl⟩
theorem specLit_not (b off n cap k:Nat) (z:Int) (w:World) (h:k<n) (_hn:n≤1073741824) (hc:w.cell? ⟨b,off+k,none⟩=some (.int .u8 z)) (h1:(z != 34)=true) (h2:(z != 39)=true) :
  Calls Tryz.prog 53 #[.slice (some ⟨b,off,none⟩) n cap,.int .i64 k] w fun x w'=>x=.returned (.tuple #[.slice none 0 0,.int .i64 0])∧w'=w:=by
 have h3:¬z=34:=by simpa using h1
 have h4:¬z=39:=by simpa using h2
 go_enter Tryz.func53,Tryz.ntmps53
 go_wp2
 go_ret2
 exact ⟨rfl,rfl⟩
theorem readLit_short (ao:Option Addr) (cap:Nat) (w:World) :
  Calls Tryz.prog 76 #[.slice ao 0 cap] w fun x w'=>x=.returned (.tuple #[.slice none 0 0,.int .i64 0])∧w'=w:=by
 go_enter Tryz.func76,Tryz.ntmps76
 go_wp2
 go_ret2
 exact ⟨rfl,rfl⟩
theorem readLit_not (b off n cap:Nat) (z:Int) (w:World) (h:0<n) (hn:n≤1073741824) (hc:w.cell? ⟨b,off,none⟩=some (.int .u8 z)) (h1:(z != 34)=true) (h2:(z != 39)=true) :
  Calls Tryz.prog 76 #[.slice (some ⟨b,off,none⟩) n cap] w fun x w'=>x=.returned (.tuple #[.slice none 0 0,.int .i64 0])∧w'=w:=by
 have h3:¬z=34:=by simpa using h1
 have h4:¬z=39:=by simpa using h2
 have hne:((n:Int)==0)=false:=by simp;omega
 go_enter Tryz.func76,Tryz.ntmps76
 go_wp2
 go_ret2
 exact ⟨rfl,rfl⟩
theorem lit_none {zs:List Int} {k:Nat} (h:¬(k<zs.length∧(zs.getD k 0=34∨zs.getD k 0=39))):litAt zs k=none:=by unfold litAt;rw [if_neg h]
theorem specLit_any (g cap k:Nat) (zs:List Int) (w:World) (hb:Bts zs) (hr:Rd w (some ⟨g,0,none⟩) zs) (hm:zs.length≤1048576) (hk:k≤1048576) :
  Calls Tryz.prog 53 #[.slice (some ⟨g,0,none⟩) zs.length cap,.int .i64 k] w (LitPost zs k w):=by
 by_cases h:k<zs.length
 ·obtain ⟨b,off,e,hbw,hcell⟩:=hr.at (by omega)
  simp only [Option.some.injEq,Addr.mk.injEq,and_true] at e
  obtain ⟨rfl,rfl⟩:=e
  by_cases hq:zs.getD k 0=34∨zs.getD k 0=39
  ·exact specLit_q _ _ cap k zs w hb hcell hbw (by omega) h hq
  have q1:¬zs.getD k 0=34:=fun e=>hq (.inl e)
  have q2:¬zs.getD k 0=39:=fun e=>hq (.inr e)
  refine (specLit_not _ _ _ cap k (zs.getD k 0) w h (by omega) (hcell k h) (bne_iff_ne.mpr q1) (bne_iff_ne.mpr q2)).mono ?_
  rintro x w' ⟨rfl,rfl⟩
  exact ⟨Below.refl _ _,.inl ⟨lit_none (by omega),rfl⟩⟩
 ·refine (specLit_short _ _ cap k w (by omega) (by omega) (by omega)).mono ?_
  rintro x w' ⟨rfl,rfl⟩
  exact ⟨Below.refl _ _,.inl ⟨lit_none (by omega),rfl⟩⟩
theorem implLit_any (g cap:Nat) (zs:List Int) (w:World) (hb:Bts zs) (hr:Rd w (some ⟨g,0,none⟩) zs) (hcap:zs.length≤cap) (hm:cap≤9223372036854775807) (hnb:zs.length≤1048576:=by omega) :
  Calls Tryz.prog 76 #[.slice (some ⟨g,0,none⟩) zs.length cap] w (LitPost zs 0 w):=by
 by_cases h:0<zs.length
 ·obtain ⟨b,off,e,hbw,hcell⟩:=hr.at h
  simp only [Option.some.injEq,Addr.mk.injEq,and_true] at e
  obtain ⟨rfl,rfl⟩:=e
  by_cases q:zs.getD 0 0=34∨zs.getD 0 0=39
  ·refine (readLit_any _ _ cap zs w hb hcell hbw hcap (by omega) h q).mono ?_
   rintro x w' ⟨hbel,hor⟩
   refine ⟨hbel,?_⟩
   rcases hor with hx|⟨t,e,ao,c,h1,h2,h3⟩
   ·exact .inl hx
   ·exact .inr ⟨t,e,ao,c,h1,by simpa using h2,h3⟩
  have hc0:=hcell 0 h
  refine (readLit_not _ _ _ cap (zs.getD 0 0) w h (by omega) (by rw [Nat.add_zero] at hc0;exact hc0) (bne_iff_ne.mpr fun h=>q (.inl h)) (bne_iff_ne.mpr fun h=>q (.inr h))).mono ?_
  rintro x w' ⟨rfl,rfl⟩
  exact ⟨Below.refl _ _,.inl ⟨lit_none (by omega),rfl⟩⟩
 ·have hz:zs.length=0:=by omega
  rw [hz]
  refine (readLit_short _ cap w).mono ?_
  rintro x w' ⟨rfl,rfl⟩
  exact ⟨Below.refl _ _,.inl ⟨lit_none (by omega),rfl⟩⟩
def UnqPost (zs:List Int) (n:Nat) (w:World) (x:Ending) (w':World):Prop:=Below w.heap.size w w' ∧
 ∃ao c,x=.returned (.tuple #[.slice ao n c,.int .i64 (unqCode zs)])∧w'.ownsRow w.heap.size 5 1 (.slice ao n c) n (bcells (unqText zs))
theorem unq_none {zs:List Int} (h:litAt zs 0=none):unqText zs=[]∧unqCode zs=2:=by simp [unqText,unqCode,unq,h]
theorem unq_short {zs t:List Int} {e:Nat} (h:litAt zs 0=some (t,e)) (h2:¬e=zs.length):unqText zs=[]∧unqCode zs=2:=by simp [unqText,unqCode,unq,h,h2]
theorem unq_some {zs t:List Int} {e:Nat} (h:litAt zs 0=some (t,e)) (h2:e=zs.length):unqText zs=t∧unqCode zs=0:=by simp [unqText,unqCode,unq,h,h2]
theorem litAt_fits {zs:List Int} (hb:Bts zs) {t:List Int} {e:Nat} (h:litAt zs 0=some (t,e)):t.length≤e∧e≤zs.length∧1≤e:=by
 unfold litAt at h
 split at h
 ·have:=rl_fits hb zs.length 1 [] t e (by omega) h (by simp)
  omega
 ·cases h
theorem unqText_len {zs:List Int} (hb:Bts zs):(unqText zs).length≤zs.length:=by
 cases h:litAt zs 0 with
 |none=>rw [(unq_none h).1];simp
 |some p =>
  obtain ⟨t,e⟩:=p
  have f:=litAt_fits hb h
  by_cases he:e=zs.length
  ·rw [(unq_some h he).1];omega
  ·rw [(unq_short h he).1];simp
theorem own_belowT {w w':World} {base:Nat} {e:TypeId} {size B cap:Nat} {ao:Option Addr} {n:Nat} {xs:List Value} (h:w.ownsRow base e size (.slice ao n cap) n xs) (hb:Below B w w') (hg:∀g,(Value.slice ao n cap).ownBlock=some g→g<B):w'.ownsRow base e size (.slice ao n cap) n xs:=by
 obtain ⟨h1,h2⟩:=h
 refine ⟨h1,?_⟩
 rcases h2 with h|⟨g',cap',cur,h,hb',hh,r⟩
 ·exact .inl h
 ·exact .inr ⟨g',cap',cur,h,hb',(hb.block _ (hg g' (by rw [h];rfl))).trans hh,r⟩
theorem specUnq_any (g cap n:Nat) (zs:List Int) (w:World) (hb:Bts zs) (hl:zs.length=n) (hr:Rd w (some ⟨g,0,none⟩) zs) (hm:n≤1048576) :
  Calls Tryz.prog 124 #[.slice (some ⟨g,0,none⟩) n cap] w (UnqPost zs (unqText zs).length w):=by
 have C:=specLit_any g cap 0 zs w hb hr (by omega) (by omega)
 rw [hl] at C
 go_enter Tryz.func124,Tryz.ntmps124
 go_wp2_with fail
 refine C.mono ?_
 rintro x w1 ⟨hbel,hor⟩
 have HBel:Hid _:=hbel
 have HB:Hid (Bts zs):=hb
 have HL:Hid (zs.length=n):=hl
 clear C hbel hb hr hl
 rcases hor with ⟨hn,rfl⟩|⟨t,e,ao,c,hs,rfl,hown⟩
 ·have HU:Hid (unqText zs=[]∧unqCode zs=2):=unq_none hn
  clear hn
  go_wp2
  go_ret2
  exact ⟨HBel.out,none,0,by rw [HU.out.1,HU.out.2];rfl,by rw [HU.out.1];exact World.ownsRow_nil _ _ _ _⟩
 ·have hf:=litAt_fits HB.out hs
  have he0:((e:Int)==0)=false:=by simp;omega
  have hsub:((e:Int)-((0:Nat):Int))=(e:Int):=by omega
  by_cases hen:e=n
  ·have HU:Hid (unqText zs=t∧unqCode zs=0):=unq_some hs (by rw [HL.out];exact hen)
   have HO:Hid _:=hown
   subst hen
   clear hs hf hown
   go_wp2
   go_ret2
   exact ⟨HBel.out,ao,c,by rw [HU.out.1,HU.out.2];rfl,by rw [HU.out.1];exact HO.out⟩
  ·have HU:Hid (unqText zs=[]∧unqCode zs=2):=unq_short hs (by rw [HL.out];exact hen)
   have hne:((e:Int)==(n:Int))=false:=by simp;omega
   clear hs hf hown
   go_wp2
   go_ret2
   exact ⟨HBel.out,none,0,by rw [HU.out.1,HU.out.2];rfl,by rw [HU.out.1];exact World.ownsRow_nil _ _ _ _⟩
theorem implUnq_any (g cap n:Nat) (zs:List Int) (w:World) (hb:Bts zs) (hl:zs.length=n) (hr:Rd w (some ⟨g,0,none⟩) zs) (hcap:n≤cap) (hm:cap≤9223372036854775807) (hnn:n≤1048576:=by omega) :
  Calls Tryz.prog 132 #[.slice (some ⟨g,0,none⟩) n cap] w (UnqPost zs (unqText zs).length w):=by
 have C:=implLit_any g cap zs w hb hr (by omega) (by omega) (by omega)
 rw [hl] at C
 go_enter Tryz.func132,Tryz.ntmps132
 go_wp2_with fail
 refine C.mono ?_
 rintro x w1 ⟨hbel,hor⟩
 have HBel:Hid _:=hbel
 have HB:Hid (Bts zs):=hb
 have HL:Hid (zs.length=n):=hl
 clear C hbel hb hr hl
 rcases hor with ⟨hn,rfl⟩|⟨t,e,ao,c,hs,rfl,hown⟩
 ·have HU:Hid (unqText zs=[]∧unqCode zs=2):=unq_none hn
  clear hn
  go_wp2
  go_ret2
  exact ⟨HBel.out,none,0,by rw [HU.out.1,HU.out.2];rfl,by rw [HU.out.1];exact World.ownsRow_nil _ _ _ _⟩
 ·have hf:=litAt_fits HB.out hs
  rw [HL.out] at hf
  have he0:((e:Int)==0)=false:=by simp;omega
  have hsub:((e:Int)-((0:Nat):Int))=(e:Int):=by omega
  by_cases hen:e=n
  ·have HU:Hid (unqText zs=t∧unqCode zs=0):=unq_some hs (by rw [HL.out];exact hen)
   have HO:Hid _:=hown
   subst hen
   clear hs hf hown
   go_wp2
   go_ret2
   exact ⟨HBel.out,ao,c,by rw [HU.out.1,HU.out.2];rfl,by rw [HU.out.1];exact HO.out⟩
  ·have HU:Hid (unqText zs=[]∧unqCode zs=2):=unq_short hs (by rw [HL.out];exact hen)
   have hne:(e:Int)<(n:Int):=by omega
   clear hs hf hown
   go_wp2
   go_ret2
   exact ⟨HBel.out,none,0,by rw [HU.out.1,HU.out.2];rfl,by rw [HU.out.1];exact World.ownsRow_nil _ _ _ _⟩
end lit
namespace lex
open Go.RowKit bts scn lit
def TokPost (zs:List Int) (k:Nat) (w:World) (e:Ending) (w':World):Prop :=
 e=.returned (.tuple #[.int .i64 (tokK zs k).1,.int .i64 ((tokK zs k).2.1:Nat),.int .i64 (tokK zs k).2.2])∧Below w.heap.size w w'
theorem tok_post {zs:List Int} {k:Nat} {w w':World} {a b c:Int} {m:Nat} (h:tokK zs k=(a,m,c)) (hm:b=(m:Int)) (hb:Below w.heap.size w w'):TokPost zs k w (.returned (.tuple #[.int .i64 a,.int .i64 b,.int .i64 c])) w':=by
 unfold TokPost;rw [h,hm];exact ⟨rfl,hb⟩
theorem conv_part (g k n cap:Nat) (zs:List Int) (w:World) (hcell:∀i,i<zs.length→w.cell? ⟨g,i,none⟩=some (.int .u8 (zs.getD i 0))) (h:k+n≤zs.length) :
  (convert 22 9 (.slice (some ⟨g,k,none⟩) n cap)).run Tryz.prog w=.ok (.string (strOfNums (part zs k n))) w :=
 run_convert_bytes_arg w 22 5 Tryz.underlying22 Tryz.underlying5 g k n cap (part zs k n) (part_len h) (fun i hi=>by rw [part_getD hi];exact hcell (k+i) (by omega)) 9 Tryz.underlying9
theorem tok_letter (g cap k:Nat) (zs:List Int) (w:World) (hb:Bts zs) (hcell:∀i,i<zs.length→w.cell? ⟨g,i,none⟩=some (.int .u8 (zs.getD i 0))) (hm:cap≤9223372036854775807∧zs.length≤1048576) (hcap:zs.length≤cap) (hk:k<zs.length) (hl:letter (zs.getD k 0)=true) :
  Calls Tryz.prog 26 #[.slice (some ⟨g,0,none⟩) zs.length cap,.int .i64 k] w (TokPost zs k w):=by
 have R:=l2run_any g 0 cap k zs w hb (by simpa using hcell) (by omega) (by omega)
 have hsp:=span_step (p:=alnum) hk (by unfold alnum;rw [hl];rfl)
 have hle:=span_le alnum zs k
 have hc0:=hcell k hk
 have hbz:=hb k
 have CV:=conv_part g k (span alnum zs k) (cap-k) zs w hcell (by omega)
 have T:tokK zs k=(if isIn words (strOfNums (part zs k (span alnum zs k))) then (4,span alnum zs k,0) else (1,span alnum zs k,0)):=by unfold tokK;rw [if_pos hl]
 obtain ⟨z,hz⟩:∃z,z=zs.getD k 0:=⟨_,rfl⟩
 obtain ⟨m,hmm⟩:∃m,m=span alnum zs k:=⟨_,rfl⟩
 obtain ⟨s,hs⟩:∃s,s=strOfNums (part zs k (span alnum zs k)):=⟨_,rfl⟩
 rw [← hs] at CV T
 rw [← hmm] at R hsp hle CV T
 rw [← hz] at hc0 hbz hl
 obtain ⟨n,hnn⟩:∃n,n=zs.length:=⟨_,rfl⟩
 rw [← hnn] at hcap hk hle R ⊢
 have hm1:1≤m:=by omega
 have hm2:k+m≤n:=by omega
 obtain ⟨z0,z1⟩:=hbz
 have HT:Hid (tokK zs k=(if isIn words s then (4,m,0) else (1,m,0))):=T
 clear hsp hle hcell hb hz hmm hs hnn T
 have LT:=letter_any z z0 z1 w
 rw [hl] at LT
 go_enter Tryz.func26,Tryz.ntmps26
 go_wp2_with fail
 refine R.mono ?_
 rintro e w' ⟨rfl,hw⟩
 replace hw:=hw.symm
 subst hw
 clear R
 go_wp2_with fail
 refine LT.mono ?_
 rintro e w' ⟨rfl,hw⟩
 replace hw:=hw.symm
 subst hw
 clear LT
 go_wp2_with fail
 refine (isWord_any s w).mono ?_
 rintro e w1 ⟨rfl,o,rfl⟩
 clear CV
 by_cases hi:isIn words s=true
 ·rw [hi]
  go_wp2
  go_ret3
  exact tok_post (by rw [HT.out,if_pos hi]) rfl ((Below.refl _ _).alloc (Nat.le_refl _) _)
 ·have hi':isIn words s=false:=by simpa using hi
  rw [hi']
  go_wp2
  go_ret3
  exact tok_post (by rw [HT.out,if_neg hi]) rfl ((Below.refl _ _).alloc (Nat.le_refl _) _)
theorem tok_digit (g cap k:Nat) (zs:List Int) (w:World) (hb:Bts zs) (hcell:∀i,i<zs.length→w.cell? ⟨g,i,none⟩=some (.int .u8 (zs.getD i 0))) (hm:cap≤9223372036854775807∧zs.length≤1048576) (hcap:zs.length≤cap) (hk:k<zs.length) (hl:letter (zs.getD k 0)=false) (hd:digit (zs.getD k 0)=true) :
  Calls Tryz.prog 26 #[.slice (some ⟨g,0,none⟩) zs.length cap,.int .i64 k] w (TokPost zs k w):=by
 have R:=l2run_any g 0 cap k zs w hb (by simpa using hcell) (by omega) (by omega)
 have hsp:=span_step (p:=alnum) hk (by unfold alnum;rw [hl,hd];rfl)
 have hle:=span_le alnum zs k
 have hc0:=hcell k hk
 have hbz:=hb k
 have SC:=(scan_any g k (cap-k) (part zs k (span alnum zs k)) (part_bts hb _ _) w (fun i hi=>by
  rw [part_len (by omega)] at hi
  exact ⟨g,k,rfl,by rw [part_getD hi];exact hcell (k+i) (by omega)⟩) (by rw [part_len (by omega)];omega) (by omega) (by rw [part_len (by omega)];omega)).1
 rw [part_len (by omega)] at SC
 have T:tokK zs k=(2,span alnum zs k,(scan (part zs k (span alnum zs k))).2):=by unfold tokK;rw [if_neg (by rw [hl];decide),if_pos hd]
 obtain ⟨z,hz⟩:∃z,z=zs.getD k 0:=⟨_,rfl⟩
 obtain ⟨m,hmm⟩:∃m,m=span alnum zs k:=⟨_,rfl⟩
 obtain ⟨p,hp⟩:∃p,p=scan (part zs k (span alnum zs k)):=⟨_,rfl⟩
 rw [← hp] at SC T
 rw [← hmm] at R hsp hle SC T
 rw [← hz] at hc0 hbz hl hd
 obtain ⟨n,hnn⟩:∃n,n=zs.length:=⟨_,rfl⟩
 rw [← hnn] at hcap hk hle R ⊢
 have hm1:1≤m:=by omega
 have hm2:k+m≤n:=by omega
 obtain ⟨z0,z1⟩:=hbz
 obtain ⟨p1,p2⟩:=p
 have HT:Hid (tokK zs k=(2,m,p2)):=T
 clear hsp hle hcell hb hz hmm hp hnn T
 have LT:=letter_any z z0 z1 w
 have DT:=digit_any2 z z0 z1 w
 rw [hl] at LT
 rw [hd] at DT
 go_enter Tryz.func26,Tryz.ntmps26
 go_wp2_with fail
 refine R.mono ?_
 rintro e w' ⟨rfl,hw⟩
 replace hw:=hw.symm
 subst hw
 clear R
 go_wp2_with fail
 refine LT.mono ?_
 rintro e w' ⟨rfl,hw⟩
 replace hw:=hw.symm
 subst hw
 clear LT
 go_wp2_with fail
 refine DT.mono ?_
 rintro e w' ⟨rfl,hw⟩
 replace hw:=hw.symm
 subst hw
 clear DT
 go_wp2_with fail
 refine SC.mono ?_
 rintro e w' ⟨rfl,hw⟩
 replace hw:=hw.symm
 subst hw
 clear SC
 go_wp2_with fail
 go_ret3
 exact tok_post HT.out rfl (Below.refl _ _)
theorem tok_quote (g cap k:Nat) (zs:List Int) (w:World) (hb:Bts zs) (hcell:∀i,i<zs.length→w.cell? ⟨g,i,none⟩=some (.int .u8 (zs.getD i 0))) (hm:cap≤9223372036854775807∧zs.length≤1048576) (_hcap:zs.length≤cap) (hk:k<zs.length) (hl:letter (zs.getD k 0)=false) (hd:digit (zs.getD k 0)=false) (hq:zs.getD k 0=34∨zs.getD k 0=39) :
  Calls Tryz.prog 26 #[.slice (some ⟨g,0,none⟩) zs.length cap,.int .i64 k] w (TokPost zs k w):=by
 have R:=l2run_any g 0 cap k zs w hb (by simpa using hcell) (by omega) (by omega)
 have hle:=span_le alnum zs k
 have hc0:=hcell k hk
 have hbz:=hb k
 have SL:=specLit_any g cap k zs w hb (fun i hi=>⟨g,0,rfl,by rw [Nat.zero_add];exact hcell i hi⟩) (by omega) (by omega)
 have T:tokK zs k=ofLit k (litAt zs k):=by unfold tokK;rw [if_neg (by rw [hl];decide),if_neg (by rw [hd];decide),if_pos hq]
 have HFit:Hid (∀t e,litAt zs k=some (t,e)→k+1≤e∧e≤zs.length):=by
  intro t e h
  unfold litAt at h
  rw [if_pos ⟨hk,hq⟩] at h
  have:=rl_fits hb zs.length (k+1) [] t e (by omega) h (by simp)
  omega
 obtain ⟨z,hz⟩:∃z,z=zs.getD k 0:=⟨_,rfl⟩
 obtain ⟨m,hmm⟩:∃m,m=span alnum zs k:=⟨_,rfl⟩
 rw [← hmm] at R hle
 rw [← hz] at hc0 hbz hl hd hq
 obtain ⟨n,hnn⟩:∃n,n=zs.length:=⟨_,rfl⟩
 rw [← hnn] at _hcap hk hle R SL HFit ⊢
 obtain ⟨z0,z1⟩:=hbz
 have HT:Hid (tokK zs k=ofLit k (litAt zs k)):=T
 clear hle hcell hb hz hmm hnn T
 have LT:=letter_any z z0 z1 w
 have DT:=digit_any2 z z0 z1 w
 rw [hl] at LT
 rw [hd] at DT
 rcases hq with rfl|rfl
 all_goals
  go_enter Tryz.func26,Tryz.ntmps26
  go_wp2_with fail
  refine R.mono ?_
  rintro e w' ⟨rfl,hw⟩
  replace hw:=hw.symm
  subst hw
  clear R
  go_wp2_with fail
  refine LT.mono ?_
  rintro e w' ⟨rfl,hw⟩
  replace hw:=hw.symm
  subst hw
  clear LT
  go_wp2_with fail
  refine DT.mono ?_
  rintro e w' ⟨rfl,hw⟩
  replace hw:=hw.symm
  subst hw
  clear DT
  go_wp2_with fail
  refine SL.mono ?_
  rintro x w1 ⟨hbel,hor⟩
  clear SL
  have HBel:Hid (Below w.heap.size w w1):=hbel
  clear hbel
  rcases hor with ⟨hn,rfl⟩|⟨t,e,ao,c,hs,rfl,hown⟩
  ·have HT2:Hid (tokK zs k=(0,0,2)):=by show _=_;rw [HT.out,hn];rfl
   clear hn HT
   go_wp2
   go_ret3
   exact tok_post HT2.out rfl HBel.out
  ·have hf:=HFit.out t e hs
   have HT2:Hid (tokK zs k=(3,e-k,0)):=by show _=_;rw [HT.out,hs];rfl
   have he0:(((e:Int)-(k:Int))==0)=false:=by simp;omega
   clear hs HT hown
   go_wp2
   go_ret3
   exact tok_post HT2.out (by omega) HBel.out
theorem signLen_step {zs:List Int} {k:Nat} {l:List ByteArray} {j:Nat} (h:j<l.length) (hs:stands zs k (l.getD j ByteArray.empty)=false):signLen zs k (l.drop j)=signLen zs k (l.drop (j+1)):=by
 rw [List.drop_eq_getElem_cons h]
 have e:l.getD j ByteArray.empty=l[j]:=by simp [List.getD_eq_getElem?_getD,List.getElem?_eq_getElem h]
 rw [e] at hs
 rw [signLen,if_neg (by rw [hs];decide)]
theorem signLen_hit {zs:List Int} {k:Nat} {l:List ByteArray} {j:Nat} (h:j<l.length) (hs:stands zs k (l.getD j ByteArray.empty)=true):signLen zs k (l.drop j)=some (l.getD j ByteArray.empty).size:=by
 rw [List.drop_eq_getElem_cons h]
 have e:l.getD j ByteArray.empty=l[j]:=by simp [List.getD_eq_getElem?_getD,List.getElem?_eq_getElem h]
 rw [e] at hs ⊢
 rw [signLen,if_pos hs]
theorem signs_size (j:Nat) (h:j<22):1≤(signs.getD j ByteArray.empty).size∧(signs.getD j ByteArray.empty).size≤2:=by
 match j,h with
 |0,_|1,_|2,_|3,_|4,_|5,_|6,_|7,_|8,_|9,_|10,_|11,_|12,_|13,_|14,_|15,_|16,_|17,_|18,_|19,_|20,_|21,_=>decide
 |k+22,h=>omega
theorem tok_sign (g cap k:Nat) (zs:List Int) (w:World) (hb:Bts zs) (hcell:∀i,i<zs.length→w.cell? ⟨g,i,none⟩=some (.int .u8 (zs.getD i 0))) (hm:cap≤9223372036854775807∧zs.length≤1048576) (hcap:zs.length≤cap) (hk:k<zs.length) (hl:letter (zs.getD k 0)=false) (hd:digit (zs.getD k 0)=false) (hq:¬(zs.getD k 0=34∨zs.getD k 0=39)) :
  Calls Tryz.prog 26 #[.slice (some ⟨g,0,none⟩) zs.length cap,.int .i64 k] w (TokPost zs k w):=by
 obtain ⟨hm,hnb⟩:=hm
 have R:=l2run_any g 0 cap k zs w hb (by simpa using hcell) (by omega) (by omega)
 have hle:=span_le alnum zs k
 have hc0:=hcell k hk
 have hbz:=hb k
 have hgw:=World.block_lt_of_cell? _ _ hc0
 have T:tokK zs k=ofSign (signLen zs k signs):=by unfold tokK;rw [if_neg (by rw [hl];decide),if_neg (by rw [hd];decide),if_neg hq]
 have SG:=signs_any w
 have HSC0:=signs_cell w
 generalize hO:(Obj.cells #[.string {data:=#[61,61]},.string {data:=#[126,61]},.string {data:=#[60,61]},.string {data:=#[62,61]},.string {data:=#[47,47]},.string {data:=#[46,46]},.string {data:=#[43]},.string {data:=#[45]},.string {data:=#[42]},.string {data:=#[37]},.string {data:=#[60]},.string {data:=#[62]},.string {data:=#[61]},.string {data:=#[40]},.string {data:=#[41]},.string {data:=#[123]},.string {data:=#[125]},.string {data:=#[91]},.string {data:=#[93]},.string {data:=#[59]},.string {data:=#[44]},.string {data:=#[46]}] 9)=O at SG HSC0
 clear hO
 have HSC:Hid (∀j,j<22→(w.alloc O).cell? ⟨w.heap.size,j,none⟩=some (.string (signs.getD j ByteArray.empty))):=HSC0
 have HCV:Hid (∀(d m:Nat),k+m≤zs.length→(convert 22 9 (.slice (some ⟨g,k,none⟩) m (cap-k))).run Tryz.prog ((w.alloc O).drewN d)=.ok (.string (strOfNums (part zs k m))) ((w.alloc O).drewN d)):=by
  intro d m h
  refine conv_part g k m (cap-k) zs _ (fun i hi=>?_) h
  exact (((Below.refl w.heap.size w).alloc (Nat.le_refl _) O).cell (p:=⟨g,i,none⟩) hgw).trans (hcell i hi)
 obtain ⟨z,hz⟩:∃z,z=zs.getD k 0:=⟨_,rfl⟩
 obtain ⟨m,hmm⟩:∃m,m=span alnum zs k:=⟨_,rfl⟩
 rw [← hmm] at R hle
 rw [← hz] at hc0 hbz hl hd hq
 obtain ⟨n,hnn⟩:∃n,n=zs.length:=⟨_,rfl⟩
 have HL:Hid (zs.length=n):=hnn.symm
 rw [← hnn] at hnb hcap hk hle R HCV ⊢
 obtain ⟨z0,z1⟩:=hbz
 have HT:Hid (tokK zs k=ofSign (signLen zs k signs)):=T
 clear hle hcell hb hz hmm hnn T HSC0
 have LT:=letter_any z z0 z1 w
 have DT:=digit_any2 z z0 z1 w
 rw [hl] at LT
 rw [hd] at DT
 have q1:(z==34)=false:=by simp;omega
 have q2:(z==39)=false:=by simp;omega
 clear hq
 go_enter Tryz.func26,Tryz.ntmps26
 go_wp2_with fail
 refine R.mono ?_
 rintro e w' ⟨rfl,hw⟩
 replace hw:=hw.symm
 subst hw
 clear R
 go_wp2_with fail
 refine LT.mono ?_
 rintro e w' ⟨rfl,hw⟩
 replace hw:=hw.symm
 subst hw
 clear LT
 go_wp2_with fail
 refine DT.mono ?_
 rintro e w' ⟨rfl,hw⟩
 replace hw:=hw.symm
 subst hw
 clear DT
 go_wp2_with fail
 refine SG.mono ?_
 rintro e w1 ⟨rfl,rfl⟩
 clear SG
 go_wp2
 go_loopw [14] (fun q wr=>∃(j d:Nat),j≤22∧q=.int .i64 j∧wr=(w.alloc O).drewN d∧Hid (signLen zs k signs=signLen zs k (signs.drop j))) (fun q _=>22-(intOf q).toNat)
 case atStart=>exact ⟨0,0,by omega,rfl,rfl,rfl⟩
 case round =>
  obtain ⟨j,d,hj,rfl,rfl,HR⟩:=hrel
  by_cases hlt:j<22
  ·have hc:=HSC.out j hlt
   have hsz:=signs_size j hlt
   obtain ⟨x,hx⟩:∃x,x=signs.getD j ByteArray.empty:=⟨_,rfl⟩
   rw [← hx] at hc hsz
   have HX:Hid (signs.getD j ByteArray.empty=x):=hx.symm
   clear hx
   have hj1:(j:Int)<22:=by omega
   obtain ⟨hs1,hs2⟩:=hsz
   by_cases hfit:k+x.size≤n
   ·have CV:=fun d=>HCV.out d x.size hfit
    have hf1:((k:Int)+(x.size:Int))≤(n:Int):=by omega
    have hfd:decide (((k:Int)+(x.size:Int))≤(n:Int))=true:=by simp;omega
    obtain ⟨p,hp⟩:∃p,p=strOfNums (part zs k x.size):=⟨_,rfl⟩
    simp only [← hp] at CV
    have HP:Hid (strOfNums (part zs k x.size)=p):=hp.symm
    clear hp
    by_cases he:(p.toList==x.toList)=true
    ·have HE:Hid (signLen zs k signs=some x.size):=by
      show _=_
      rw [HR.out,signLen_hit (by rw [signs_len];exact hlt),HX.out]
      rw [HX.out];unfold stands;rw [HP.out,he,HL.out,decide_eq_true hfit];rfl
     go_wp2
     go_quiet (fail)
     go_wp2
     go_ret3
     exact tok_post (by rw [HT.out,HE.out];rfl) rfl (below_drewN (below_drewN ((Below.refl _ _).alloc (Nat.le_refl _) _) _) _)
    ·have he':(p.toList==x.toList)=false:=by simpa using he
     clear he
     have HE:Hid (signLen zs k signs=signLen zs k (signs.drop (j+1))):=by
      show _=_
      rw [HR.out,signLen_step (by rw [signs_len];exact hlt)]
      rw [HX.out];unfold stands;rw [HP.out,he'];simp
     go_wp2
     go_quiet (fail)
     go_wp2
     go_roundw
     case rel=>exact ⟨j+1,d+nq,by omega,by go_num,by simp,HE⟩
     case measure=>simp [intOf];omega
   ·have hfd:decide (((k:Int)+(x.size:Int))≤(n:Int))=false:=by simp;omega
    have HE:Hid (signLen zs k signs=signLen zs k (signs.drop (j+1))):=by
     show _=_
     rw [HR.out,signLen_step (by rw [signs_len];exact hlt)]
     rw [HX.out];unfold stands;rw [HL.out,decide_eq_false hfit];rfl
    go_wp2
    go_quiet (fail)
    go_wp2
    go_roundw
    case rel=>exact ⟨j+1,d+nq,by omega,by go_num,by simp,HE⟩
    case measure=>simp [intOf];omega
  ·have hj2:j=22:=by omega
   subst hj2
   have HE:Hid (signLen zs k signs=none):=by show _=_;rw [HR.out];rfl
   go_wp2
   go_ret3
   exact tok_post (by rw [HT.out,HE.out];rfl) rfl (below_drewN ((Below.refl _ _).alloc (Nat.le_refl _) _) _)
theorem tok_any (g cap k:Nat) (zs:List Int) (w:World) (hb:Bts zs) (hcell:∀i,i<zs.length→w.cell? ⟨g,i,none⟩=some (.int .u8 (zs.getD i 0))) (hm:cap≤9223372036854775807∧zs.length≤1048576) (hcap:zs.length≤cap) (hk:k<zs.length) :
  Calls Tryz.prog 26 #[.slice (some ⟨g,0,none⟩) zs.length cap,.int .i64 k] w (TokPost zs k w):=by
 cases hl:letter (zs.getD k 0) with
 |true=>exact tok_letter g cap k zs w hb hcell hm hcap hk hl
 |false =>
  cases hd:digit (zs.getD k 0) with
  |true=>exact tok_digit g cap k zs w hb hcell hm hcap hk hl hd
  |false =>
   by_cases hq:zs.getD k 0=34∨zs.getD k 0=39
   ·exact tok_quote g cap k zs w hb hcell hm hcap hk hl hd hq
   ·exact tok_sign g cap k zs w hb hcell hm hcap hk hl hd hq
end lex
end Go.Proofs.YtkmiagkehcflnaaGreatDoor
