import Derived.Test.YtkmiagkehcflnaaGreatDoorMScanMore
import Derived.Test.YtkmiagkehcflnaaGreatDoorMLexTok
import Derived.Test.YtkmiagkehcflnaaGreatDoorMPsUna
import Derived.Test.YtkmiagkehcflnaaGreatDoorMPsFunc
set_option maxRecDepth 100000
set_option maxHeartbeats 8000000
namespace Go.Proofs.YtkmiagkehcflnaaGreatDoor
namespace ps
open Go.RowKit bts nod lex tk
theorem rl_bts {q:Int} {zs:List Int} (hb:Bts zs):∀(k i:Nat) (o t:List Int) (n:Nat),zs.length-i≤k→lit.rl q zs i o=some (t,n)→(∀x∈o,0≤x∧x≤255)→∀x∈t,0≤x∧x≤255:=by
 intro k
 induction k with
 |zero =>
  intro i o t n hk h ho
  rw [lit.rl_eq,if_neg (by omega)] at h
  cases h
 |succ k ih =>
  intro i o t n hk h ho
  rw [lit.rl_eq] at h
  by_cases hi:i<zs.length
  ·rw [if_pos hi] at h
   by_cases hq:zs.getD i 0=q
   ·rw [if_pos hq] at h
    injection h with h
    injection h with h1 h2
    rw [← h1]
    exact ho
   ·rw [if_neg hq] at h
    cases hr:lit.rc zs i with
    |none=>rw [hr] at h;cases h
    |some p =>
     obtain ⟨c,s⟩:=p
     rw [hr] at h
     dsimp only at h
     have hf:=lit.rc_fits hb hi hr
     rw [if_neg (by omega)] at h
     refine ih (i+s) (o++[c]) t n (by omega) h (fun x hx=>?_)
     rcases List.mem_append.1 hx with hx|hx
     ·exact ho x hx
     ·rw [List.mem_singleton.1 hx];omega
  ·rw [if_neg hi] at h;cases h
theorem unq_bts {zs:List Int} (hb:Bts zs):Bts (lit.unqText zs):=by
 have H:∀x∈lit.unqText zs,0≤x∧x≤255:=by
  unfold lit.unqText lit.unq
  cases h:lit.litAt zs 0 with
  |none=>intro x hx;simp at hx
  |some p =>
   obtain ⟨t,n⟩:=p
   intro x hx
   dsimp only at hx
   by_cases hn:n=zs.length
   ·rw [if_pos hn] at hx
    unfold lit.litAt at h
    split at h
    ·exact rl_bts hb _ _ _ _ _ (Nat.le_refl _) h (by simp) x hx
    ·cases h
   ·rw [if_neg hn] at hx;simp at hx
 intro i
 rcases Nat.lt_or_ge i (lit.unqText zs).length with hi|hi
 ·rw [List.getD_eq_getElem?_getD,List.getElem?_eq_getElem hi]
  exact H _ (List.getElem_mem hi)
 ·rw [List.getD_eq_getElem?_getD,List.getElem?_eq_none hi]
  decide
theorem Cur.scan {E:En} {Q:Nat→Bool} {w W:World} {g:Nat} {s:Ps} (_C:Cur E w g Q W s) {b cap:Nat} {t:ByteArray} {z1 z2:Int} (hz:scn.scan (nums t)=(z1,z2)) (hr:RdV (veil (hd w Q) W) (.slice (some ⟨b,0,none⟩) t.size cap) (nums t)) (hc:t.size≤cap) (hcap:cap≤maxLen) (hsz:t.size≤6000) :
  Calls Tryz.prog 52 #[.slice (some ⟨b,0,none⟩) t.size cap] W fun e w'=>e=.returned (.tuple #[.int .i64 z1,.int .i64 z2])∧w'=W:=by
 obtain ⟨ao,cp,e,hm,hR,hB⟩:=hr
 simp only [Value.slice.injEq] at e
 obtain ⟨rfl,_,rfl⟩:=e
 have h:=(scn.scan_any b 0 cap (nums t) hB W (fun i hi=>by obtain ⟨b2,o2,e2,h2⟩:=hR i hi;exact ⟨b2,o2,e2,(veil_cell h2).1⟩) (by rw [nums_length];exact hc) (by unfold maxLen at hcap;omega) (by rw [nums_length];omega)).1
 rw [nums_length,hz] at h
 exact h
theorem Cur.unq {E:En} {Q:Nat→Bool} {w W:World} {g:Nat} {s:Ps} (C:Cur E w g Q W s) {b cap:Nat} {t:ByteArray} {y:List Int} (hy:lit.unqText (nums t)=y) (hr:RdV (veil (hd w Q) W) (.slice (some ⟨b,0,none⟩) t.size cap) (nums t)) (hsz:t.size≤6000) :
  Calls Tryz.prog 124 #[.slice (some ⟨b,0,none⟩) t.size cap] W fun e w'=>∃a c z,e=.returned (.tuple #[.slice a y.length c,.int .i64 z])∧RdV (veil (hd w Q) w') (.slice a y.length c) y∧Cur E w g Q w' s∧Fq g W w':=by
 obtain ⟨ao,cp,e,hm,hR,hB⟩:=hr
 simp only [Value.slice.injEq] at e
 obtain ⟨rfl,_,rfl⟩:=e
 refine (lit.specUnq_any b cap t.size (nums t) W hB (nums_length t) (fun i hi=>by obtain ⟨b2,o2,e2,h2⟩:=hR i hi;exact ⟨b2,o2,e2,(veil_cell h2).1⟩) (by omega)).mono ?_
 rintro e w' ⟨hBl,a,c,rfl,hO⟩
 have hbt:=unq_bts hB
 rw [hy] at hO hbt ⊢
 obtain ⟨h1,h2⟩:=C.bel hBl
 have hln:y.length≤6000:=by have:=lit.unqText_len hB;rw [hy,nums_length] at this;omega
 refine ⟨a,c,_,rfl,⟨a,c,rfl,by omega,fun i hi=>?_,hbt⟩,h1,h2⟩
 rcases hO.2 with ⟨e,e0⟩|⟨g',cap',cur,e,hg,hh,hnc,_,hs,ht⟩
 ·simp only [Value.slice.injEq] at e;omega
 ·simp only [Value.slice.injEq] at e
  obtain ⟨rfl,_,rfl⟩:=e
  refine ⟨g',0,rfl,cell_veil ?_ (C.new hg)⟩
  rw [Nat.zero_add,World.ownsRow.cellAt hO i (by omega)]
  unfold bcells
  rw [List.getElem?_map,List.getElem?_eq_getElem hi,List.getD_eq_getElem?_getD,List.getElem?_eq_getElem hi]
  rfl
theorem sim_next {E:En} (ok:E.ok) {f:Nat} (A:Al E f) (s:Ps) (hn0:need E.T 3 s≤f+1):∃l c s',Rs E (f+1) 3 0 s [l] c s'∧Nods E 111 ag1 s l s':=by
 have hn:(0≤s.bad∧3≤f+1)∨(s.bad<0∧20*(E.T.length-s.at_)+4≤f+1):=nx hn0 rfl rfl
 by_cases h1:isP E.zs E.T s {data:=#[110,105,108]}=true
 ·skip
  obtain ⟨s1,es1⟩:∃x,got E.zs E.T s {data:=#[110,105,108]}=x:=⟨_,rfl⟩
  have gs1:s1.at_=s.at_+1∧s1.bad=s.bad:=by rw [← es1];exact got_yes h1
  have bs1:=is_bad h1
  refine ⟨tk.leaf 11,0,s1,rs_of (by decide) hn0 (by rw [pz_3];unfold pB3;dsimp only;simp only [if_pos h1,es1]) (by decide),fun w g hP=>?_⟩
  have C0:Hid (Cur E w g no w s):=Cur.start ok hP
  clear hP hn hn0 gs1 bs1
  unfold ag1
  go_enter Tryz.func111,Tryz.ntmps111
  go_wp2_with (first
   |(go_at_call 32;refine (C1.out.leaf 11).mono ?_;rintro e w2 ⟨a2,c2,rfl,hX,hC,hF⟩;have C2:Hid _:=hC;have Y_2:Hid _:=hX;clear hC hF hX)
   |(go_at_call 28;refine (C0.out.got h1 es1).mono ?_;rintro e w1 ⟨rfl,hC,hF⟩;have C1:Hid _:=hC;clear hC hF))
  go_returns
  exact C2.out.done Y_2.out rfl
 ·skip
  by_cases h2:isP E.zs E.T s {data:=#[116,114,117,101]}=true
  ·skip
   obtain ⟨s1,es1⟩:∃x,got E.zs E.T s {data:=#[116,114,117,101]}=x:=⟨_,rfl⟩
   have gs1:s1.at_=s.at_+1∧s1.bad=s.bad:=by rw [← es1];exact got_yes h2
   have bs1:=is_bad h2
   refine ⟨tk.leaf 12,0,s1,rs_of (by decide) hn0 (by rw [pz_3];unfold pB3;dsimp only;simp only [if_neg h1,if_pos h2,es1]) (by decide),fun w g hP=>?_⟩
   have C0:Hid (Cur E w g no w s):=Cur.start ok hP
   clear hP hn hn0 gs1 bs1
   unfold ag1
   go_enter Tryz.func111,Tryz.ntmps111
   go_wp2_with (first
    |(go_at_call 32;refine (C2.out.leaf 12).mono ?_;rintro e w3 ⟨a3,c3,rfl,hX,hC,hF⟩;have C3:Hid _:=hC;have Y_3:Hid _:=hX;clear hC hF hX)
    |(go_at_call 28;refine (C1.out.got h2 es1).mono ?_;rintro e w2 ⟨rfl,hC,hF⟩;have C2:Hid _:=hC;clear hC hF)
    |(go_at_call 28;refine (C0.out.got (bool_no h1) (got_no h1)).mono ?_;rintro e w1 ⟨rfl,hC,hF⟩;have C1:Hid _:=hC;clear hC hF))
   go_returns
   exact C3.out.done Y_3.out rfl
  ·skip
   by_cases h3:isP E.zs E.T s {data:=#[102,97,108,115,101]}=true
   ·skip
    obtain ⟨s1,es1⟩:∃x,got E.zs E.T s {data:=#[102,97,108,115,101]}=x:=⟨_,rfl⟩
    have gs1:s1.at_=s.at_+1∧s1.bad=s.bad:=by rw [← es1];exact got_yes h3
    have bs1:=is_bad h3
    refine ⟨tk.leaf 13,0,s1,rs_of (by decide) hn0 (by rw [pz_3];unfold pB3;dsimp only;simp only [if_neg h1,if_neg h2,if_pos h3,es1]) (by decide),fun w g hP=>?_⟩
    have C0:Hid (Cur E w g no w s):=Cur.start ok hP
    clear hP hn hn0 gs1 bs1
    unfold ag1
    go_enter Tryz.func111,Tryz.ntmps111
    go_wp2_with (first
     |(go_at_call 32;refine (C3.out.leaf 13).mono ?_;rintro e w4 ⟨a4,c4,rfl,hX,hC,hF⟩;have C4:Hid _:=hC;have Y_4:Hid _:=hX;clear hC hF hX)
     |(go_at_call 28;refine (C2.out.got h3 es1).mono ?_;rintro e w3 ⟨rfl,hC,hF⟩;have C3:Hid _:=hC;clear hC hF)
     |(go_at_call 28;refine (C1.out.got (bool_no h2) (got_no h2)).mono ?_;rintro e w2 ⟨rfl,hC,hF⟩;have C2:Hid _:=hC;clear hC hF)
     |(go_at_call 28;refine (C0.out.got (bool_no h1) (got_no h1)).mono ?_;rintro e w1 ⟨rfl,hC,hF⟩;have C1:Hid _:=hC;clear hC hF))
    go_returns
    exact C4.out.done Y_4.out rfl
   ·skip
    by_cases h4:isP E.zs E.T s {data:=#[102,117,110,99,116,105,111,110]}=true
    ·skip
     obtain ⟨s1,es1⟩:∃x,got E.zs E.T s {data:=#[102,117,110,99,116,105,111,110]}=x:=⟨_,rfl⟩
     have gs1:s1.at_=s.at_+1∧s1.bad=s.bad:=by rw [← es1];exact got_yes h4
     have bs1:=is_bad h4
     obtain ⟨ls2,cs2,s2,Rs2,Ds2⟩:=A.fun_ s1 (nd 8 3 3 rfl rfl (by omega))
     have gs2:s1.at_≤s2.at_∧(0≤s1.bad→0≤s2.bad):=⟨Rs2.2.1,Rs2.2.2.1⟩
     refine ⟨ls2,cs2,s2,rs_of (by decide) hn0 (by rw [pz_3];unfold pB3;dsimp only;simp only [if_neg h1,if_neg h2,if_neg h3,if_pos h4,es1,Rs2.1]) (by decide),fun w g hP=>?_⟩
     have C0:Hid (Cur E w g no w s):=Cur.start ok hP
     have HRs2:Hid _:=Rs2
     have HDs2:Hid _:=Ds2
     clear hP hn hn0 Rs2 Ds2 gs1 bs1 gs2
     unfold ag1
     go_enter Tryz.func111,Tryz.ntmps111
     go_wp2_with (first
      |(go_at_call 59;refine (C4.out.call HDs2.out).mono ?_;rintro e w5 ⟨a5,c5,rfl,hX,hC,hF⟩;have C5:Hid _:=hC;have X_5:Hid _:=hX;clear hC hF hX)
      |(go_at_call 28;refine (C3.out.got h4 es1).mono ?_;rintro e w4 ⟨rfl,hC,hF⟩;have C4:Hid _:=hC;clear hC hF)
      |(go_at_call 28;refine (C2.out.got (bool_no h3) (got_no h3)).mono ?_;rintro e w3 ⟨rfl,hC,hF⟩;have C3:Hid _:=hC;clear hC hF)
      |(go_at_call 28;refine (C1.out.got (bool_no h2) (got_no h2)).mono ?_;rintro e w2 ⟨rfl,hC,hF⟩;have C2:Hid _:=hC;clear hC hF)
      |(go_at_call 28;refine (C0.out.got (bool_no h1) (got_no h1)).mono ?_;rintro e w1 ⟨rfl,hC,hF⟩;have C1:Hid _:=hC;clear hC hF))
     go_returns
     exact C5.out.done X_5.out rfl
    ·skip
     by_cases h5:isP E.zs E.T s {data:=#[123]}=true
     ·skip
      obtain ⟨ls1,cs1,s1,Rs1,Ds1⟩:=A.tab s (nd 9 2 3 rfl rfl (by omega))
      have gs1:s.at_≤s1.at_∧(0≤s.bad→0≤s1.bad):=⟨Rs1.2.1,Rs1.2.2.1⟩
      refine ⟨ls1,cs1,s1,rs_of (by decide) hn0 (by rw [pz_3];unfold pB3;dsimp only;simp only [if_neg h1,if_neg h2,if_neg h3,if_neg h4,if_pos h5,Rs1.1]) (by decide),fun w g hP=>?_⟩
      have C0:Hid (Cur E w g no w s):=Cur.start ok hP
      have HRs1:Hid _:=Rs1
      have HDs1:Hid _:=Ds1
      clear hP hn hn0 Rs1 Ds1 gs1
      unfold ag1
      go_enter Tryz.func111,Tryz.ntmps111
      go_wp2_with (first
       |(go_at_call 123;refine (C5.out.call HDs1.out).mono ?_;rintro e w6 ⟨a6,c6,rfl,hX,hC,hF⟩;have C6:Hid _:=hC;have X_6:Hid _:=hX;clear hC hF hX)
       |(go_at_call 55;refine (C4.out.is h5).mono ?_;rintro e w5 ⟨rfl,hC,hF⟩;have C5:Hid _:=hC;clear hC hF)
       |(go_at_call 28;refine (C3.out.got (bool_no h4) (got_no h4)).mono ?_;rintro e w4 ⟨rfl,hC,hF⟩;have C4:Hid _:=hC;clear hC hF)
       |(go_at_call 28;refine (C2.out.got (bool_no h3) (got_no h3)).mono ?_;rintro e w3 ⟨rfl,hC,hF⟩;have C3:Hid _:=hC;clear hC hF)
       |(go_at_call 28;refine (C1.out.got (bool_no h2) (got_no h2)).mono ?_;rintro e w2 ⟨rfl,hC,hF⟩;have C2:Hid _:=hC;clear hC hF)
       |(go_at_call 28;refine (C0.out.got (bool_no h1) (got_no h1)).mono ?_;rintro e w1 ⟨rfl,hC,hF⟩;have C1:Hid _:=hC;clear hC hF))
      go_returns
      exact C6.out.done X_6.out rfl
     ·skip
      by_cases k2:kindP E.T s=2
      ·skip
       have kb:=kind_bad k2 (by decide)
       have HL:Hid (s.at_<E.T.length):=kb.2
       have i9:s.at_<6000:=by have:=ok.many;omega
       obtain ⟨tx,etx⟩:∃x,now E.zs E.T s=x:=⟨_,rfl⟩
       have htx:tx.size≤6000:=by rw [← etx];exact now_size ok s
       obtain ⟨z,ez⟩:∃z,scn.scan (nums tx)=z:=⟨_,rfl⟩
       obtain ⟨z1,z2⟩:=z
       refine ⟨[Nd.mk 14 z1 [] [] 0],0,step s,rs_of (by decide) hn0 (by rw [pz_3];unfold pB3;dsimp only;simp only [if_neg h1,if_neg h2,if_neg h3,if_neg h4,if_neg h5,if_pos k2,etx,ez]) (by decide),fun w g hP=>?_⟩
       have C0:Hid (Cur E w g no w s):=Cur.start ok hP
       clear hP hn hn0 A kb
       have FIN:Hid (∀(w9:World) (X:Nat),X=w9.heap.size→Cur E w g no w9 (step s)→∃a' c',Ending.returned (.slice (some ⟨X,0,none⟩) 1 1)=.returned (.slice a' [Nd.mk 14 z1 [] [] 0].length c')∧FN (tk.lt w.heap.size) (w9.alloc (.cells #[.int .i64 14,.int .i64 z1,.slice none 0 0,.slice none 0 0,.int .i64 0] 61)) (.slice a' [Nd.mk 14 z1 [] [] 0].length c') [Nd.mk 14 z1 [] [] 0]∧E.pp (w9.alloc (.cells #[.int .i64 14,.int .i64 z1,.slice none 0 0,.slice none 0 0,.int .i64 0] 61)) g (step s)∧Fq g w (w9.alloc (.cells #[.int .i64 14,.int .i64 z1,.slice none 0 0,.slice none 0 0,.int .i64 0] 61))):=fun w9 X hX hC=>by
        obtain ⟨a5,c5,e5,r5⟩:=((hC.bel (bel_alloc _ (.cells #[.int .i64 14,.int .i64 z1,.slice none 0 0,.slice none 0 0,.int .i64 0] 61))).1).done (fn_one (hC.new (Nat.le_refl _)) (rdV_nil _) (rdVV_nil _)) rfl
        exact ⟨a5,c5,by rw [← e5,hX],r5⟩
       unfold ag1
       go_enter Tryz.func111,Tryz.ntmps111
       go_wp2_with (first
        |(go_at_call 52;refine (CS.out.scan ez RS.out (grownCap_ge _ _ _ _) (grownCap_le_maxLen _ _ _ _ (by unfold maxLen;omega)) htx).mono ?_;rintro e w99 ⟨rfl,rfl⟩)
        |(go_at_call 90;refine (C6.out.now etx).mono ?_;rintro e w7 ⟨rfl,hC,hF⟩;have C7:Hid _:=hC;clear hC hF;have kv:=Lib.run_convert_string_bytes w7 9 22 5 tx Tryz.underlying9 Tryz.underlying22 Tryz.underlying5;obtain ⟨hCB,hFB⟩:=C7.out.bel (bel_bytes w7 tx);have CB:Hid (Cur E w g no (Lib.bytesWorld w7 5 tx) s):=hCB;have RB:Hid (RdV (veil (hd w no) (Lib.bytesWorld w7 5 tx)) (.slice (some ⟨w7.heap.size,0,none⟩) tx.size (grownCap w7 tx.size 0 5)) (nums tx)):=rdV_text w7 tx _ htx (C7.out.new (Nat.le_refl _));clear hCB hFB;have p2:=CB.out.c2;have p2f:=CB.out.free 2;obtain ⟨hCS,hFS⟩:=CB.out.setStep HL.out;have CS:Hid _:=hCS;have RS:Hid (RdV (veil (hd w no) ((Lib.bytesWorld w7 5 tx).setCell ⟨g,2,none⟩ (.int .i64 ((s.at_:Int)+1)))) (.slice (some ⟨w7.heap.size,0,none⟩) tx.size (grownCap w7 tx.size 0 5)) (nums tx)):=CB.out.rv hFS RB.out;clear hCS hFS)
        |(go_at_call 56;refine (C5.out.kind k2).mono ?_;rintro e w6 ⟨rfl,hC,hF⟩;have C6:Hid _:=hC;clear hC hF)
        |(go_at_call 55;refine (C4.out.is (bool_no h5)).mono ?_;rintro e w5 ⟨rfl,hC,hF⟩;have C5:Hid _:=hC;clear hC hF)
        |(go_at_call 28;refine (C3.out.got (bool_no h4) (got_no h4)).mono ?_;rintro e w4 ⟨rfl,hC,hF⟩;have C4:Hid _:=hC;clear hC hF)
        |(go_at_call 28;refine (C2.out.got (bool_no h3) (got_no h3)).mono ?_;rintro e w3 ⟨rfl,hC,hF⟩;have C3:Hid _:=hC;clear hC hF)
        |(go_at_call 28;refine (C1.out.got (bool_no h2) (got_no h2)).mono ?_;rintro e w2 ⟨rfl,hC,hF⟩;have C2:Hid _:=hC;clear hC hF)
        |(go_at_call 28;refine (C0.out.got (bool_no h1) (got_no h1)).mono ?_;rintro e w1 ⟨rfl,hC,hF⟩;have C1:Hid _:=hC;clear hC hF))
       go_returns
       exact FIN.out _ _ (by simp) CS.out
      ·skip
       by_cases k3:kindP E.T s=3
       ·skip
        have kb:=kind_bad k3 (by decide)
        have HL:Hid (s.at_<E.T.length):=kb.2
        have i9:s.at_<6000:=by have:=ok.many;omega
        obtain ⟨tx,etx⟩:∃x,now E.zs E.T s=x:=⟨_,rfl⟩
        have htx:tx.size≤6000:=by rw [← etx];exact now_size ok s
        obtain ⟨y,ey⟩:∃y,lit.unqText (nums tx)=y:=⟨_,rfl⟩
        refine ⟨[Nd.mk 15 0 y [] 0],0,longer (step s) (decide (5000<y.length)),rs_of (by decide) hn0 (by rw [pz_3];unfold pB3;dsimp only;simp only [if_neg h1,if_neg h2,if_neg h3,if_neg h4,if_neg h5,if_neg k2,if_pos k3,etx,ey]) (by decide),fun w g hP=>?_⟩
        have C0:Hid (Cur E w g no w s):=Cur.start ok hP
        clear hP hn hn0 A kb
        have hyl:y.length≤6000:=by have:=lit.unqText_len (nums_bts tx);rw [ey,nums_length] at this;omega
        unfold ag1
        have FIN:Hid (∀(w9:World) (a:Option Addr) (c:Nat) (bb:Bool) (X:Nat),X=w9.heap.size→Cur E w g no w9 (step s)→RdV (veil (hd w no) w9) (.slice a y.length c) y→bb=(s.long || decide (5000<y.length))→∃a' c',Ending.returned (.slice (some ⟨X,0,none⟩) 1 1)=.returned (.slice a' [Nd.mk 15 0 y [] 0].length c')∧FN (tk.lt w.heap.size) ((w9.setCell ⟨g,4,none⟩ (.bool bb)).alloc (.cells #[.int .i64 15,.int .i64 0,.slice a y.length c,.slice none 0 0,.int .i64 0] 61)) (.slice a' [Nd.mk 15 0 y [] 0].length c') [Nd.mk 15 0 y [] 0]∧E.pp ((w9.setCell ⟨g,4,none⟩ (.bool bb)).alloc (.cells #[.int .i64 15,.int .i64 0,.slice a y.length c,.slice none 0 0,.int .i64 0] 61)) g (longer (step s) (decide (5000<y.length)))∧Fq g w ((w9.setCell ⟨g,4,none⟩ (.bool bb)).alloc (.cells #[.int .i64 15,.int .i64 0,.slice a y.length c,.slice none 0 0,.int .i64 0] 61))):=fun w9 a c bb X hX hC hR hb=>by
         obtain ⟨h1,h2⟩:=hC.setLong bb
         have hR2:=hC.rv h2 hR
         have h3:=(h1.bel (bel_alloc _ (.cells #[.int .i64 15,.int .i64 0,.slice a y.length c,.slice none 0 0,.int .i64 0] 61))).1
         have e5:({step s with long:=bb}:Ps)=longer (step s) (decide (5000<y.length)):=by rw [hb];rfl
         rw [e5] at h3
         obtain ⟨a5,c5,e5,r5⟩:=h3.done (fn_one (h1.new (Nat.le_refl _)) hR2 (rdVV_nil _)) rfl
         exact ⟨a5,c5,by rw [← e5,hX];simp,r5⟩
        have hl:s.long=true∨s.long=false:=by cases s.long <;> simp
        rcases hl with hl|hl
        ·go_enter Tryz.func111,Tryz.ntmps111
         go_wp2_with (first
          |(go_at_call 124;refine (CS.out.unq ey RS.out htx).mono ?_;rintro e w99 ⟨a9,c9,z9,rfl,hX,hC,hF⟩;have C9:Hid _:=hC;have X9:Hid _:=hX;have d4:w99.cell? ⟨g,4,none⟩=some (.bool s.long):=C9.out.c4;have f4:=C9.out.free 4;rw [hl] at d4;clear hC hF hX)
          |(go_at_call 90;refine (C6.out.now etx).mono ?_;rintro e w7 ⟨rfl,hC,hF⟩;have C7:Hid _:=hC;clear hC hF;have kv:=Lib.run_convert_string_bytes w7 9 22 5 tx Tryz.underlying9 Tryz.underlying22 Tryz.underlying5;obtain ⟨hCB,hFB⟩:=C7.out.bel (bel_bytes w7 tx);have CB:Hid (Cur E w g no (Lib.bytesWorld w7 5 tx) s):=hCB;have RB:Hid (RdV (veil (hd w no) (Lib.bytesWorld w7 5 tx)) (.slice (some ⟨w7.heap.size,0,none⟩) tx.size (grownCap w7 tx.size 0 5)) (nums tx)):=rdV_text w7 tx _ htx (C7.out.new (Nat.le_refl _));clear hCB hFB;have p2:=CB.out.c2;have p2f:=CB.out.free 2;obtain ⟨hCS,hFS⟩:=CB.out.setStep HL.out;have CS:Hid _:=hCS;have RS:Hid (RdV (veil (hd w no) ((Lib.bytesWorld w7 5 tx).setCell ⟨g,2,none⟩ (.int .i64 ((s.at_:Int)+1)))) (.slice (some ⟨w7.heap.size,0,none⟩) tx.size (grownCap w7 tx.size 0 5)) (nums tx)):=CB.out.rv hFS RB.out;clear hCS hFS)
          |(go_at_call 56;refine (C5.out.kind k3).mono ?_;rintro e w6 ⟨rfl,hC,hF⟩;have C6:Hid _:=hC;clear hC hF)
          |(go_at_call 55;refine (C4.out.is (bool_no h5)).mono ?_;rintro e w5 ⟨rfl,hC,hF⟩;have C5:Hid _:=hC;clear hC hF)
          |(go_at_call 28;refine (C3.out.got (bool_no h4) (got_no h4)).mono ?_;rintro e w4 ⟨rfl,hC,hF⟩;have C4:Hid _:=hC;clear hC hF)
          |(go_at_call 28;refine (C2.out.got (bool_no h3) (got_no h3)).mono ?_;rintro e w3 ⟨rfl,hC,hF⟩;have C3:Hid _:=hC;clear hC hF)
          |(go_at_call 28;refine (C1.out.got (bool_no h2) (got_no h2)).mono ?_;rintro e w2 ⟨rfl,hC,hF⟩;have C2:Hid _:=hC;clear hC hF)
          |(go_at_call 28;refine (C0.out.got (bool_no h1) (got_no h1)).mono ?_;rintro e w1 ⟨rfl,hC,hF⟩;have C1:Hid _:=hC;clear hC hF))
         go_returns
         exact FIN.out w99 a9 c9 (true) _ (by simp) C9.out X9.out (by rw [hl];rfl)
        ·go_enter Tryz.func111,Tryz.ntmps111
         go_wp2_with (first
          |(go_at_call 124;refine (CS.out.unq ey RS.out htx).mono ?_;rintro e w99 ⟨a9,c9,z9,rfl,hX,hC,hF⟩;have C9:Hid _:=hC;have X9:Hid _:=hX;have d4:w99.cell? ⟨g,4,none⟩=some (.bool s.long):=C9.out.c4;have f4:=C9.out.free 4;rw [hl] at d4;clear hC hF hX)
          |(go_at_call 90;refine (C6.out.now etx).mono ?_;rintro e w7 ⟨rfl,hC,hF⟩;have C7:Hid _:=hC;clear hC hF;have kv:=Lib.run_convert_string_bytes w7 9 22 5 tx Tryz.underlying9 Tryz.underlying22 Tryz.underlying5;obtain ⟨hCB,hFB⟩:=C7.out.bel (bel_bytes w7 tx);have CB:Hid (Cur E w g no (Lib.bytesWorld w7 5 tx) s):=hCB;have RB:Hid (RdV (veil (hd w no) (Lib.bytesWorld w7 5 tx)) (.slice (some ⟨w7.heap.size,0,none⟩) tx.size (grownCap w7 tx.size 0 5)) (nums tx)):=rdV_text w7 tx _ htx (C7.out.new (Nat.le_refl _));clear hCB hFB;have p2:=CB.out.c2;have p2f:=CB.out.free 2;obtain ⟨hCS,hFS⟩:=CB.out.setStep HL.out;have CS:Hid _:=hCS;have RS:Hid (RdV (veil (hd w no) ((Lib.bytesWorld w7 5 tx).setCell ⟨g,2,none⟩ (.int .i64 ((s.at_:Int)+1)))) (.slice (some ⟨w7.heap.size,0,none⟩) tx.size (grownCap w7 tx.size 0 5)) (nums tx)):=CB.out.rv hFS RB.out;clear hCS hFS)
          |(go_at_call 56;refine (C5.out.kind k3).mono ?_;rintro e w6 ⟨rfl,hC,hF⟩;have C6:Hid _:=hC;clear hC hF)
          |(go_at_call 55;refine (C4.out.is (bool_no h5)).mono ?_;rintro e w5 ⟨rfl,hC,hF⟩;have C5:Hid _:=hC;clear hC hF)
          |(go_at_call 28;refine (C3.out.got (bool_no h4) (got_no h4)).mono ?_;rintro e w4 ⟨rfl,hC,hF⟩;have C4:Hid _:=hC;clear hC hF)
          |(go_at_call 28;refine (C2.out.got (bool_no h3) (got_no h3)).mono ?_;rintro e w3 ⟨rfl,hC,hF⟩;have C3:Hid _:=hC;clear hC hF)
          |(go_at_call 28;refine (C1.out.got (bool_no h2) (got_no h2)).mono ?_;rintro e w2 ⟨rfl,hC,hF⟩;have C2:Hid _:=hC;clear hC hF)
          |(go_at_call 28;refine (C0.out.got (bool_no h1) (got_no h1)).mono ?_;rintro e w1 ⟨rfl,hC,hF⟩;have C1:Hid _:=hC;clear hC hF))
         go_returns
         exact FIN.out w99 a9 c9 (decide ((5000:Int)<(y.length:Int))) _ (by simp) C9.out X9.out (by rw [hl];rw [Bool.false_or];exact decide_eq_decide.2 (by omega))
       ·skip
        obtain ⟨kd,ekd⟩:∃x,kindP E.T s=x:=⟨_,rfl⟩
        rw [ekd] at k2 k3
        have e2:(kd==2)=false:=by simp;omega
        have e3:(kd==3)=false:=by simp;omega
        obtain ⟨tx,etx⟩:∃x,now E.zs E.T s=x:=⟨_,rfl⟩
        have htx:tx.size≤6000:=by rw [← etx];exact now_size ok s
        obtain ⟨ls1,cs1,s1,Rs1,Ds1⟩:=A.suf s (nd 4 2 3 rfl rfl (by omega))
        have gs1:s.at_≤s1.at_∧(0≤s.bad→0≤s1.bad):=⟨Rs1.2.1,Rs1.2.2.1⟩
        refine ⟨ls1,0,s1,rs_of (by decide) hn0 (by rw [pz_3];unfold pB3;dsimp only;simp only [if_neg h1,if_neg h2,if_neg h3,if_neg h4,if_neg h5,etx,ekd,if_neg k2,if_neg k3,Rs1.1]) (by decide),fun w g hP=>?_⟩
        have C0:Hid (Cur E w g no w s):=Cur.start ok hP
        have HRs1:Hid _:=Rs1
        have HDs1:Hid _:=Ds1
        clear hP hn hn0 Rs1 Ds1 gs1
        unfold ag1
        go_enter Tryz.func111,Tryz.ntmps111
        go_wp2_with (first
         |(go_at_call 93;refine (CB.out.callB HDs1.out).mono ?_;rintro e w8 ⟨a8,c8,rfl,hX,hC,hF⟩;have C8:Hid _:=hC;have X_8:Hid _:=hX;clear hC hF hX)
         |(go_at_call 90;refine (C6.out.now etx).mono ?_;rintro e w7 ⟨rfl,hC,hF⟩;have C7:Hid _:=hC;clear hC hF;have kv:=Lib.run_convert_string_bytes w7 9 22 5 tx Tryz.underlying9 Tryz.underlying22 Tryz.underlying5;obtain ⟨hCB,hFB⟩:=C7.out.bel (bel_bytes w7 tx);have CB:Hid (Cur E w g no (Lib.bytesWorld w7 5 tx) s):=hCB;have RB:Hid (RdV (veil (hd w no) (Lib.bytesWorld w7 5 tx)) (.slice (some ⟨w7.heap.size,0,none⟩) tx.size (grownCap w7 tx.size 0 5)) (nums tx)):=rdV_text w7 tx _ htx (C7.out.new (Nat.le_refl _));clear hCB hFB)
         |(go_at_call 56;refine (C5.out.kind ekd).mono ?_;rintro e w6 ⟨rfl,hC,hF⟩;have C6:Hid _:=hC;clear hC hF)
         |(go_at_call 55;refine (C4.out.is (bool_no h5)).mono ?_;rintro e w5 ⟨rfl,hC,hF⟩;have C5:Hid _:=hC;clear hC hF)
         |(go_at_call 28;refine (C3.out.got (bool_no h4) (got_no h4)).mono ?_;rintro e w4 ⟨rfl,hC,hF⟩;have C4:Hid _:=hC;clear hC hF)
         |(go_at_call 28;refine (C2.out.got (bool_no h3) (got_no h3)).mono ?_;rintro e w3 ⟨rfl,hC,hF⟩;have C3:Hid _:=hC;clear hC hF)
         |(go_at_call 28;refine (C1.out.got (bool_no h2) (got_no h2)).mono ?_;rintro e w2 ⟨rfl,hC,hF⟩;have C2:Hid _:=hC;clear hC hF)
         |(go_at_call 28;refine (C0.out.got (bool_no h1) (got_no h1)).mono ?_;rintro e w1 ⟨rfl,hC,hF⟩;have C1:Hid _:=hC;clear hC hF))
        go_returns
        exact C8.out.done X_8.out rfl
end ps
end Go.Proofs.YtkmiagkehcflnaaGreatDoor
