import Derived.Deep.AppendLies
import Derived.Test.YtkmiagkehcflnaaGreatDoorMLexTok
set_option maxRecDepth 100000
set_option maxHeartbeats 8000000
namespace Go.Proofs.YtkmiagkehcflnaaGreatDoor
namespace lex
open Go.RowKit bts scn lit
theorem lx_end {zs:List Int} {k:Nat} {out:List (Int×Nat×Nat)} (h:¬k<zs.length):lx zs k out=(out,0,0):=by rw [lx_eq,if_neg h]
theorem lx_blank {zs:List Int} {k:Nat} {out:List (Int×Nat×Nat)} (h:k<zs.length) (hb:blank (zs.getD k 0)=true):lx zs k out=lx zs (k+1) out:=by rw [lx_eq,if_pos h,if_pos hb]
theorem lx_comment {zs:List Int} {k:Nat} {out:List (Int×Nat×Nat)} (h:k<zs.length) (hb:blank (zs.getD k 0)=false) (hc:zs.getD k 0=45∧k+1<zs.length∧zs.getD (k+1) 0=45):lx zs k out=lx zs (k+span notLf zs k) out:=by
 rw [lx_eq,if_pos h,if_neg (by rw [hb];decide),if_pos hc,if_pos]
 rw [span_step h (by rw [hc.1];rfl)];omega
theorem lx_tok {zs:List Int} {k:Nat} {out:List (Int×Nat×Nat)} (h:k<zs.length) (hb:blank (zs.getD k 0)=false) (hc:¬(zs.getD k 0=45∧k+1<zs.length∧zs.getD (k+1) 0=45)) (h0:(tokK zs k).2.2=0) (hp:0<(tokK zs k).2.1) :
  lx zs k out=lx zs (k+(tokK zs k).2.1) (out++[((tokK zs k).1,k,(tokK zs k).2.1)]):=by
 rw [lx_eq,if_pos h,if_neg (by rw [hb];decide),if_neg hc,if_pos h0,if_pos hp]
theorem lx_bad {zs:List Int} {k:Nat} {out:List (Int×Nat×Nat)} (h:k<zs.length) (hb:blank (zs.getD k 0)=false) (hc:¬(zs.getD k 0=45∧k+1<zs.length∧zs.getD (k+1) 0=45)) (h0:¬(tokK zs k).2.2=0) :
  lx zs k out=([],(tokK zs k).2.2,(k:Int)):=by
 rw [lx_eq,if_pos h,if_neg (by rw [hb];decide),if_neg hc,if_neg h0]
theorem signLen_fits {zs:List Int} {k n:Nat}:∀{l:List ByteArray},(∀s∈l,1≤s.size)→signLen zs k l=some n→1≤n∧k+n≤zs.length
 |[],_,h=>by cases h
 |s::r,hl,h=>by
  rw [signLen] at h
  split at h
  ·rename_i hs
   simp only [Option.some.injEq] at h
   subst h
   refine ⟨hl s (by simp),?_⟩
   unfold stands at hs
   simp only [Bool.and_eq_true,decide_eq_true_eq] at hs
   exact hs.1
  ·exact signLen_fits (fun x hx=>hl x (by simp [hx])) h
theorem tok_fits {zs:List Int} (hb:Bts zs) {k:Nat} (hk:k<zs.length) (h0:(tokK zs k).2.2=0):1≤(tokK zs k).2.1∧k+(tokK zs k).2.1≤zs.length:=by
 have hle:=span_le alnum zs k
 unfold tokK at h0 ⊢
 split
 ·rename_i hl
  have hsp:=span_step (p:=alnum) hk (by unfold alnum;rw [hl];rfl)
  split <;> simp only <;> omega
 ·rename_i hl
  rw [if_neg hl] at h0
  split
  ·rename_i hd
   have hsp:=span_step (p:=alnum) hk (by unfold alnum;rw [hd];simp)
   simp only;omega
  ·rename_i hd
   rw [if_neg hd] at h0
   split
   ·rename_i hq
    rw [if_pos hq] at h0
    cases hL:litAt zs k with
    |none=>rw [hL] at h0;simp [ofLit] at h0
    |some p =>
     obtain ⟨t,e⟩:=p
     have hL2:=hL
     unfold litAt at hL2
     rw [if_pos ⟨hk,hq⟩] at hL2
     have:=rl_fits hb zs.length (k+1) [] t e (by omega) hL2 (by simp)
     simp only [ofLit];omega
   ·rename_i hq
    rw [if_neg hq] at h0
    cases hS:signLen zs k signs with
    |none=>rw [hS] at h0;simp [ofSign] at h0
    |some n =>
     have:=signLen_fits (l:=signs) (by decide) hS
     simp only [ofSign];omega
def tcells (l:List (Int×Nat×Nat)):List Value:=l.flatMap fun t=>[.int .i64 t.1,.int .i64 (t.2.1:Int),.int .i64 (t.2.2:Int)]
theorem tcells_snoc (l:List (Int×Nat×Nat)) (a:Int) (b c:Nat):tcells (l++[(a,b,c)])=tcells l++[.int .i64 a,.int .i64 (b:Int),.int .i64 (c:Int)]:=by simp [tcells]
theorem info_tok:(Tryz.prog.info? 68).map (fun i=>(i.zero,i.size,i.bytes))=some (some (.agg #[.int .i64 0,.int .i64 0,.int .i64 0]),3,24):=by kernel_rfl
def LexPost (zs:List Int) (n:Nat) (w:World) (x:Ending) (w':World):Prop:=Below w.heap.size w w' ∧
 ∃ao c,x=.returned (.tuple #[.slice ao n c,.int .i64 (lexR zs).2.1,.int .i64 (lexR zs).2.2])∧w'.ownsRow w.heap.size 68 3 (.slice ao n c) n (tcells (lexR zs).1)
theorem lex_post {zs:List Int} {n c:Nat} {w w':World} {ao:Option Addr} {a b:Int} {out:List (Int×Nat×Nat)} (h:lexR zs=(out,a,b)) (hn:out.length=n) (hb:Below w.heap.size w w') (ho:w'.ownsRow w.heap.size 68 3 (.slice ao n c) n (tcells out)) :
  LexPost zs (lexR zs).1.length w (.returned (.tuple #[.slice ao n c,.int .i64 a,.int .i64 b])) w':=by
 unfold LexPost;rw [h];subst hn;exact ⟨hb,ao,c,rfl,ho⟩
theorem blank_yes {c:Int} (h:c=32∨c=9∨c=13∨c=10):blank c=true:=by rcases h with rfl|rfl|rfl|rfl <;> rfl
theorem blank_no {c:Int} (h:¬(c=32∨c=9∨c=13∨c=10)):blank c=false:=by
 rw [Bool.eq_false_iff]
 intro hc
 unfold blank at hc
 simp only [Bool.or_eq_true,beq_iff_eq] at hc
 omega
theorem specLex_small (g cap:Nat) (zs:List Int) (w:World) (hb:Bts zs) (hcell:∀i,i<zs.length→w.cell? ⟨g,i,none⟩=some (.int .u8 (zs.getD i 0))) (hgw:g<w.heap.size) (hm:cap≤9223372036854775807) (hcap:zs.length≤cap) (h6:zs.length≤6000) :
  Calls Tryz.prog 12 #[.slice (some ⟨g,0,none⟩) zs.length cap] w (LexPost zs (lexR zs).1.length w):=by
 obtain ⟨i0,hi,hz0,hz1,hz2⟩:=info_parts info_tok
 have HR0:Hid (lexR zs=lx zs 0 []):=by show _=_;unfold lexR;rw [if_neg (by omega)]
 obtain ⟨n,hnn⟩:∃n,n=zs.length:=⟨_,rfl⟩
 have HL:Hid (zs.length=n):=hnn.symm
 have HB:Hid (Bts zs):=hb
 have HC:Hid (∀i,i<zs.length→w.cell? ⟨g,i,none⟩=some (.int .u8 (zs.getD i 0))):=hcell
 rw [← hnn] at hcap h6 ⊢
 clear hnn hb hcell
 obtain ⟨P,hP⟩:∃P,P=LexPost zs (lexR zs).1.length w:=⟨_,rfl⟩
 rw [← hP]
 have HP:Hid (P=LexPost zs (lexR zs).1.length w):=hP
 clear hP
 go_enter Tryz.func12,Tryz.ntmps12
 go_wp2
 go_loopw [5,6] (fun v a wr=>∃(k m c:Nat) (ao:Option Addr) (out:List (Int×Nat×Nat)),k≤n∧m≤k∧a=.int .i64 k∧v=.slice ao m c∧Hid (out.length=m)∧wr.ownsRow w.heap.size 68 3 (.slice ao m c) m (tcells out)∧Hid (lexR zs=lx zs k out)∧Below w.heap.size w wr) (fun _ a _=>n-(intOf a).toNat)
 case atStart=>exact ⟨0,0,0,none,[],by omega,by omega,rfl,rfl,rfl,World.ownsRow_nil _ _ _ _,HR0,Below.refl _ _⟩
 case round =>
  obtain ⟨k,m,c,ao,out,hk,hmk,rfl,rfl,HO,hown,HR,hbel⟩:=hrel
  by_cases hlt:k<n
  ·have HCW:Hid (∀i,i<n→wr.cell? ⟨g,i,none⟩=some (.int .u8 (zs.getD i 0))):=fun i hi=>(hbel.cell (p:=⟨g,i,none⟩) hgw).trans (HC.out i (by rw [HL.out];exact hi))
   have hc:=HCW.out k hlt
   obtain ⟨z,hz⟩:∃z,z=zs.getD k 0:=⟨_,rfl⟩
   rw [← hz] at hc
   have HZ:Hid (zs.getD k 0=z):=hz.symm
   have HI:Hid (k<zs.length):=by show _<_;rw [HL.out];exact hlt
   clear hz
   by_cases hbl:z=32∨z=9∨z=13∨z=10
   ·have HE:Hid (lexR zs=lx zs (k+1) out):=by show _=_;rw [HR.out,lx_blank HI.out (by rw [HZ.out];exact blank_yes hbl)]
    rcases hbl with rfl|rfl|rfl|rfl
    all_goals
     go_wp2
     go_roundw
     case rel=>exact ⟨k+1,m,c,ao,out,by omega,by omega,by go_num,rfl,HO,hown,HE,hbel⟩
     case measure=>simp [intOf];omega
   ·have HNB:Hid (blank (zs.getD k 0)=false):=by show _=_;rw [HZ.out];exact blank_no hbl
    have e32:(z==32)=false:=by simp;omega
    have e9:(z==9)=false:=by simp;omega
    have e13:(z==13)=false:=by simp;omega
    have e10:(z==10)=false:=by simp;omega
    have n10:¬z=10:=by omega
    clear hbl
    by_cases hcm:z=45∧k+1<n∧zs.getD (k+1) 0=45
    ·obtain ⟨rfl,h1,h2⟩:=hcm
     have HE:Hid (lexR zs=lx zs (k+span notLf zs k) out):=by show _=_;rw [HR.out,lx_comment HI.out HNB.out ⟨HZ.out,by rw [HL.out];exact h1,h2⟩]
     have HST:Hid (span notLf zs k=span notLf zs (k+1)+1):=span_step HI.out (by rw [HZ.out];rfl)
     have hc1:=HCW.out (k+1) h1
     rw [h2] at hc1
     clear h2
     have HOW:Hid (wr.ownsRow w.heap.size 68 3 (.slice ao m c) m (tcells out)):=hown
     have HBL:Hid (Below w.heap.size w wr):=hbel
     clear hown hbel
     go_wp2
     go_loop [6] (fun q=>∃(j:Nat),k≤j∧j≤n∧q=.int .i64 j∧Hid (k+span notLf zs k=j+span notLf zs j)) (fun q=>n-(intOf q).toNat)
     case atStart=>exact ⟨k,Nat.le_refl _,by omega,rfl,rfl⟩
     case round =>
      obtain ⟨j,hj1,hj2,rfl,HJ⟩:=hrel
      by_cases hjl:j<n
      ·have hcj:=HCW.out j hjl
       obtain ⟨y,hy⟩:∃y,y=zs.getD j 0:=⟨_,rfl⟩
       rw [← hy] at hcj
       have HY:Hid (zs.getD j 0=y):=hy.symm
       have HJL:Hid (j<zs.length):=by show _<_;rw [HL.out];exact hjl
       clear hy
       by_cases hy10:y=10
       ·subst hy10
        have HJE:Hid (k+span notLf zs k=j):=by show _=_;rw [HJ.out,span_stop (by rw [HY.out];rfl)];rfl
        have HJK:Hid (k<j):=by have:=HJE.out;have:=HST.out;show _<_;omega
        have hkj:k<j:=HJK.out
        go_wp2
        go_roundw
        case rel=>exact ⟨j,m,c,ao,out,by omega,by omega,rfl,rfl,HO,HOW.out,by rw [← HJE.out];exact HE,HBL.out⟩
        case measure=>simp [intOf];omega
       ·have ey:(y != 10)=true:=bne_iff_ne.mpr hy10
        have HJE:Hid (k+span notLf zs k=(j+1)+span notLf zs (j+1)):=by show _=_;rw [HJ.out,span_step HJL.out (by rw [HY.out];exact ey)];omega
        go_wp2
        go_round
        case rel=>exact ⟨j+1,by omega,by omega,by go_num,HJE⟩
        case measure=>simp [intOf];omega
      ·have HJE:Hid (k+span notLf zs k=j):=by show _=_;rw [HJ.out,span_end (by rw [HL.out];omega)];rfl
       have hkj:k<j:=by omega
       have hd:decide ((j:Int)<(n:Int))=false:=by simp;omega
       go_wp2
       go_roundw
       case rel=>exact ⟨j,m,c,ao,out,by omega,by omega,rfl,rfl,HO,HOW.out,by rw [← HJE.out];exact HE,HBL.out⟩
       case measure=>simp [intOf];omega
    ·have HNC:Hid (¬(zs.getD k 0=45∧k+1<zs.length∧zs.getD (k+1) 0=45)):=by show ¬_;rw [HZ.out,HL.out];exact hcm
     have TK:=tok_any g cap k zs wr HB.out (fun i hi=>HCW.out i (by rw [← HL.out];exact hi)) ⟨hm,by rw [HL.out];omega⟩ (by rw [HL.out];exact hcap) HI.out
     rw [HL.out] at TK
     have HF:Hid ((tokK zs k).2.2=0→1≤(tokK zs k).2.1∧k+(tokK zs k).2.1≤n):=by
      intro h;have:=tok_fits HB.out HI.out h;rw [HL.out] at this;exact this
     obtain ⟨⟨kind,q,code⟩,hT⟩:∃p,p=tokK zs k:=⟨_,rfl⟩
     replace hT:=hT.symm
     unfold TokPost at TK
     rw [hT] at TK HF
     have HT:Hid (tokK zs k=(kind,q,code)):=hT
     have hgB:∀k,(Value.slice ao m c).ownBlock=some k→w.heap.size≤k:=fun k hk=>(hown.lt k hk).1
     have hBs:=hbel.size
     have HOW:Hid (wr.ownsRow w.heap.size 68 3 (.slice ao m c) m (tcells out)):=hown
     have HBL:Hid (Below w.heap.size w wr):=hbel
     -- the ways by which the test on a comment says no
     have hways:¬z=45∨(z=45∧n≤k+1)∨(z=45∧k+1<n∧¬zs.getD (k+1) 0=45):=by
      by_cases a:z=45
      ·by_cases b:k+1<n
       ·exact .inr (.inr ⟨a,b,fun h=>hcm ⟨a,b,h⟩⟩)
       ·exact .inr (.inl ⟨a,by omega⟩)
      ·exact .inl a
     clear hcm hT hown hbel
     rcases hways with h45|⟨rfl,h1⟩|⟨rfl,h1,h2⟩
     ·have e45:(z==45)=false:=by simp;omega
      go_wp2_with fail
      refine TK.mono ?_
      rintro x w1 ⟨rfl,hb1⟩
      clear TK
      have hs1:=hb1.size
      have hown1:w1.ownsRow w.heap.size 68 3 (.slice ao m c) m (tcells out):=own_belowT HOW.out hb1 (fun g h=>(HOW.out.lt g h).2)
      have HB1:Hid (Below w.heap.size w w1):=HBL.out.trans (hb1.mono HBL.out.size)
      clear hb1
      by_cases h0:code=0
      ·subst h0
       have hf:=HF.out rfl
       obtain ⟨hf1,hf2⟩:=hf
       have HE:Hid (lexR zs=lx zs (k+q) (out++[(kind,k,q)])):=by
        show _=_
        rw [HR.out,lx_tok HI.out HNB.out HNC.out (by rw [HT.out]) (by rw [HT.out];exact hf1),HT.out]
       have hbu:∀w:World,(Instr.build 68 #[(0,.int .i64 kind),(1,.int .i64 (k:Int)),(2,.int .i64 (q:Int))]).run Tryz.prog w=.ok (.agg #[.int .i64 kind,.int .i64 (k:Int),.int .i64 (q:Int)]) w:=fun _=>by kernel_rfl
       have hmb:m≤6000:=by omega
       go_wp2_with (at_builtin;refine wpList_append_lies _ rfl _ _ _ rfl w.heap.size 68 i0 (.agg #[.int .i64 0,.int .i64 0,.int .i64 0]) 3 24 Tryz.underlying32 hi hz0 hz1 hz2 rfl (by omega) _ m (tcells out) rfl (hown1.alloc _) ⟨w1.heap.size,0,none⟩ 1 1 [.int .i64 kind,.int .i64 (k:Int),.int .i64 (q:Int)] rfl rfl (World.news_of_block (cs:=#[.int .i64 kind,.int .i64 (k:Int),.int .i64 (q:Int)]) (t:=68) (fr:=(0,0)) (heap_alloc_new w1 _)) (by simp [Value.oneCell']) (by omega) (by unfold maxLen;omega) (by omega) (by simp;omega) (w1.heap.size+1) (by simp) ?_;intro g' cap' w2 hown2 hgrow hat hlt2)
       go_roundw
       case rel=>exact ⟨k+q,m+1,cap',some ⟨g',0,none⟩,out++[(kind,k,q)],by omega,by omega,by go_num,rfl,by show _=_;rw [List.length_append,HO.out];rfl,by rw [tcells_snoc];exact hown2,HE,(HB1.out.alloc (by omega) _).grown hgrow (by simp;omega) hgB⟩
       case measure=>simp [intOf];omega
      ·have HE:Hid (lexR zs=([],code,(k:Int))):=by
        show _=_
        rw [HR.out,lx_bad HI.out HNB.out HNC.out (by rw [HT.out];exact h0),HT.out]
       have hne:(code != 0)=true:=bne_iff_ne.mpr h0
       go_wp2
       first | go_ret3 | skip
       rw [HP.out]
       exact lex_post HE.out rfl HB1.out (World.ownsRow_nil _ _ _ _)
     ·have hd:decide (((k:Int)+1)<(n:Int))=false:=by simp;omega
      go_wp2_with fail
      refine TK.mono ?_
      rintro x w1 ⟨rfl,hb1⟩
      clear TK
      have hs1:=hb1.size
      have hown1:w1.ownsRow w.heap.size 68 3 (.slice ao m c) m (tcells out):=own_belowT HOW.out hb1 (fun g h=>(HOW.out.lt g h).2)
      have HB1:Hid (Below w.heap.size w w1):=HBL.out.trans (hb1.mono HBL.out.size)
      clear hb1
      by_cases h0:code=0
      ·subst h0
       have hf:=HF.out rfl
       obtain ⟨hf1,hf2⟩:=hf
       have HE:Hid (lexR zs=lx zs (k+q) (out++[(kind,k,q)])):=by
        show _=_
        rw [HR.out,lx_tok HI.out HNB.out HNC.out (by rw [HT.out]) (by rw [HT.out];exact hf1),HT.out]
       have hbu:∀w:World,(Instr.build 68 #[(0,.int .i64 kind),(1,.int .i64 (k:Int)),(2,.int .i64 (q:Int))]).run Tryz.prog w=.ok (.agg #[.int .i64 kind,.int .i64 (k:Int),.int .i64 (q:Int)]) w:=fun _=>by kernel_rfl
       have hmb:m≤6000:=by omega
       go_wp2_with (at_builtin;refine wpList_append_lies _ rfl _ _ _ rfl w.heap.size 68 i0 (.agg #[.int .i64 0,.int .i64 0,.int .i64 0]) 3 24 Tryz.underlying32 hi hz0 hz1 hz2 rfl (by omega) _ m (tcells out) rfl (hown1.alloc _) ⟨w1.heap.size,0,none⟩ 1 1 [.int .i64 kind,.int .i64 (k:Int),.int .i64 (q:Int)] rfl rfl (World.news_of_block (cs:=#[.int .i64 kind,.int .i64 (k:Int),.int .i64 (q:Int)]) (t:=68) (fr:=(0,0)) (heap_alloc_new w1 _)) (by simp [Value.oneCell']) (by omega) (by unfold maxLen;omega) (by omega) (by simp;omega) (w1.heap.size+1) (by simp) ?_;intro g' cap' w2 hown2 hgrow hat hlt2)
       go_roundw
       case rel=>exact ⟨k+q,m+1,cap',some ⟨g',0,none⟩,out++[(kind,k,q)],by omega,by omega,by go_num,rfl,by show _=_;rw [List.length_append,HO.out];rfl,by rw [tcells_snoc];exact hown2,HE,(HB1.out.alloc (by omega) _).grown hgrow (by simp;omega) hgB⟩
       case measure=>simp [intOf];omega
      ·have HE:Hid (lexR zs=([],code,(k:Int))):=by
        show _=_
        rw [HR.out,lx_bad HI.out HNB.out HNC.out (by rw [HT.out];exact h0),HT.out]
       have hne:(code != 0)=true:=bne_iff_ne.mpr h0
       go_wp2
       first | go_ret3 | skip
       rw [HP.out]
       exact lex_post HE.out rfl HB1.out (World.ownsRow_nil _ _ _ _)
     ·have hc1:=HCW.out (k+1) h1
      obtain ⟨y,hy⟩:∃y,y=zs.getD (k+1) 0:=⟨_,rfl⟩
      rw [← hy] at hc1 h2
      have e45:(y==45)=false:=by simp;omega
      clear hy
      go_wp2_with fail
      refine TK.mono ?_
      rintro x w1 ⟨rfl,hb1⟩
      clear TK
      have hs1:=hb1.size
      have hown1:w1.ownsRow w.heap.size 68 3 (.slice ao m c) m (tcells out):=own_belowT HOW.out hb1 (fun g h=>(HOW.out.lt g h).2)
      have HB1:Hid (Below w.heap.size w w1):=HBL.out.trans (hb1.mono HBL.out.size)
      clear hb1
      by_cases h0:code=0
      ·subst h0
       have hf:=HF.out rfl
       obtain ⟨hf1,hf2⟩:=hf
       have HE:Hid (lexR zs=lx zs (k+q) (out++[(kind,k,q)])):=by
        show _=_
        rw [HR.out,lx_tok HI.out HNB.out HNC.out (by rw [HT.out]) (by rw [HT.out];exact hf1),HT.out]
       have hbu:∀w:World,(Instr.build 68 #[(0,.int .i64 kind),(1,.int .i64 (k:Int)),(2,.int .i64 (q:Int))]).run Tryz.prog w=.ok (.agg #[.int .i64 kind,.int .i64 (k:Int),.int .i64 (q:Int)]) w:=fun _=>by kernel_rfl
       have hmb:m≤6000:=by omega
       go_wp2_with (at_builtin;refine wpList_append_lies _ rfl _ _ _ rfl w.heap.size 68 i0 (.agg #[.int .i64 0,.int .i64 0,.int .i64 0]) 3 24 Tryz.underlying32 hi hz0 hz1 hz2 rfl (by omega) _ m (tcells out) rfl (hown1.alloc _) ⟨w1.heap.size,0,none⟩ 1 1 [.int .i64 kind,.int .i64 (k:Int),.int .i64 (q:Int)] rfl rfl (World.news_of_block (cs:=#[.int .i64 kind,.int .i64 (k:Int),.int .i64 (q:Int)]) (t:=68) (fr:=(0,0)) (heap_alloc_new w1 _)) (by simp [Value.oneCell']) (by omega) (by unfold maxLen;omega) (by omega) (by simp;omega) (w1.heap.size+1) (by simp) ?_;intro g' cap' w2 hown2 hgrow hat hlt2)
       go_roundw
       case rel=>exact ⟨k+q,m+1,cap',some ⟨g',0,none⟩,out++[(kind,k,q)],by omega,by omega,by go_num,rfl,by show _=_;rw [List.length_append,HO.out];rfl,by rw [tcells_snoc];exact hown2,HE,(HB1.out.alloc (by omega) _).grown hgrow (by simp;omega) hgB⟩
       case measure=>simp [intOf];omega
      ·have HE:Hid (lexR zs=([],code,(k:Int))):=by
        show _=_
        rw [HR.out,lx_bad HI.out HNB.out HNC.out (by rw [HT.out];exact h0),HT.out]
       have hne:(code != 0)=true:=bne_iff_ne.mpr h0
       go_wp2
       first | go_ret3 | skip
       rw [HP.out]
       exact lex_post HE.out rfl HB1.out (World.ownsRow_nil _ _ _ _)
  ·have HE:Hid (lexR zs=(out,0,0)):=by show _=_;rw [HR.out,lx_end (by rw [HL.out];exact hlt)]
   go_wp2
   first | go_ret3 | skip
   rw [HP.out]
   exact lex_post HE.out HO.out hbel hown
theorem specLex_big (ao:Option Addr) (cap:Nat) (zs:List Int) (w:World) (h6:6000<zs.length) :
  Calls Tryz.prog 12 #[.slice ao zs.length cap] w (LexPost zs (lexR zs).1.length w):=by
 have HE:Hid (lexR zs=([],4,6000)):=by show _=_;unfold lexR;rw [if_pos h6]
 obtain ⟨n,hnn⟩:∃n,n=zs.length:=⟨_,rfl⟩
 obtain ⟨P,hP⟩:∃P,P=LexPost zs (lexR zs).1.length w:=⟨_,rfl⟩
 rw [← hP]
 rw [← hnn] at h6 ⊢
 have HP:Hid (P=LexPost zs (lexR zs).1.length w):=hP
 clear hP hnn
 go_enter Tryz.func12,Tryz.ntmps12
 go_wp2
 first | go_ret3 | skip
 rw [HP.out]
 exact lex_post HE.out rfl (Below.refl _ _) (World.ownsRow_nil _ _ _ _)
theorem specLex_nil (ao:Option Addr) (cap:Nat) (w:World) :
  Calls Tryz.prog 12 #[.slice ao 0 cap] w (LexPost [] (lexR []).1.length w):=by
 have HE:Hid (lexR []=([],0,0)):=by show _=_;unfold lexR;rw [if_neg (by decide),lx_end (by decide)]
 obtain ⟨P,hP⟩:∃P,P=LexPost [] (lexR []).1.length w:=⟨_,rfl⟩
 rw [← hP]
 have HP:Hid (P=LexPost [] (lexR []).1.length w):=hP
 clear hP
 go_enter Tryz.func12,Tryz.ntmps12
 go_wp2
 refine wp_loop_rounds 1 ?_
 rw [rounds_succ]
 go_wp2
 first | go_ret3 | skip
 rw [HP.out]
 exact lex_post HE.out rfl (Below.refl _ _) (World.ownsRow_nil _ _ _ _)
theorem specLex_any (g cap:Nat) (zs:List Int) (w:World) (hb:Bts zs) (hr:Rd w (some ⟨g,0,none⟩) zs) (hm:cap≤9223372036854775807) (hcap:zs.length≤cap) :
  Calls Tryz.prog 12 #[.slice (some ⟨g,0,none⟩) zs.length cap] w (LexPost zs (lexR zs).1.length w):=by
 by_cases h6:6000<zs.length
 ·exact specLex_big _ cap zs w h6
 ·by_cases h0:0<zs.length
  ·obtain ⟨b,off,e,hbw,hcell⟩:=hr.at h0
   simp only [Option.some.injEq,Addr.mk.injEq,and_true] at e
   obtain ⟨rfl,rfl⟩:=e
   exact specLex_small g cap zs w hb (fun i hi=>by have:=hcell i hi;rwa [Nat.zero_add] at this) hbw hm hcap (by omega)
  ·have:zs=[]:=List.eq_nil_of_length_eq_zero (by omega)
   subst this
   exact specLex_nil _ cap w
end lex
end Go.Proofs.YtkmiagkehcflnaaGreatDoor
