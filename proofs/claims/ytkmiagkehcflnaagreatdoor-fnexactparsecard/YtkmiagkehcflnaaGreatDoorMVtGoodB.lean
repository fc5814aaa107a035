import Derived.Test.YtkmiagkehcflnaaGreatDoorMVtGood
set_option maxRecDepth 100000
set_option maxHeartbeats 8000000
namespace Go.Proofs.YtkmiagkehcflnaaGreatDoor
namespace vt
open Go.RowKit bts nod lex
theorem goodX (n cap b off i p ca q cn:Nat) (at_ an:Option Addr) (kd nn ct:Int) (lp:Bool) (tx:List Int) (nms:List (List Int)) (w:World) (hin:i<n) (_hn:n≤6000) (_hct:0≤ct) (_hct1:ct≤6000)
  (c0:w.cell? ⟨b,off+i*5,none⟩=some (.int .i64 kd)) (c1:w.cell? ⟨b,off+i*5+1,none⟩=some (.int .i64 nn)) (c2:w.cell? ⟨b,off+i*5+2,none⟩=some (.slice at_ p ca)) (c3:w.cell? ⟨b,off+i*5+3,none⟩=some (.slice an q cn)) (c4:w.cell? ⟨b,off+i*5+4,none⟩=some (.int .i64 ct))
  (CS:Hid (∀W,Calls Tryz.prog 65 #[.agg #[.int .i64 kd,.int .i64 nn,.slice at_ p ca,.slice an q cn,.int .i64 ct]] W fun x w'=>x=.returned (.string (shape kd nn ct))∧Below W.heap.size W w'))
  (CF:Hid (∀W,Below w.heap.size w W→Calls Tryz.prog 66 #[.agg #[.int .i64 kd,.int .i64 nn,.slice at_ p ca,.slice an q cn,.int .i64 ct]] W fun e w'=>e=.returned (.bool (fieldsB kd nn tx nms))∧Below W.heap.size W w')) (h0:0≤kd) (h26:kd≤26) (lq:Bool) (hk:(lq=lp∧¬kd=8∧¬kd=4∧¬kd=5∧¬kd=7∧¬kd=19∧¬kd=0)∨(lq=true∧kd=4)∨(lq=true∧kd=5)∨(lq=true∧kd=7)∨(lq=false∧kd=19)∨(lq=true∧kd=8∧lp=true)) (hf:fieldsB kd nn tx nms=true) (hsz:((shape kd nn ct).size:Int)=ct) (h:((shape kd nn ct).toList==[63])=false)
  (l:List Nd) (d e:Nat) (HL:Hid (l.length=n)) (HR:Hid (RdN w (some ⟨b,off,none⟩) l)) (HE:Hid (endAt l (d+1) i=some e)) (hd:d+1≤200) (hcn:cnt l i=ct)
  (IH:Hid (∀(x:Nat) (lp:Bool) (W:World),RdN W (some ⟨b,off,none⟩) l→(∃e,endAt l d x=some e)→Calls Tryz.prog 35 #[.slice (some ⟨b,off,none⟩) n cap,.int .i64 x,.bool lp] W fun r w'=>r=.returned (.bool (good l d x lp))∧Below W.heap.size W w')) :
  Calls Tryz.prog 35 #[.slice (some ⟨b,off,none⟩) n cap,.int .i64 i,.bool lp] w fun r w'=>r=.returned (.bool (goodKids (fun x=>good l d x lq) l false (shape kd nn ct) 0 (kids l i)))∧Below w.heap.size w w':=by
 have e0:decide (kd<0)=false:=by simp;omega
 have e26:decide (26<kd)=false:=by simp;omega
 rw [hf] at CF
 have hne:(((shape kd nn ct).size:Int) != ct)=false:=by rw [hsz];simp
 have hmk:(kids l i).length=ct.toNat:=by unfold kids;rw [kidsL_len,hcn]
 have HKO:Hid (∀k,k<(kids l i).length→∃e',endAt l d ((kids l i).getD k 0)=some e'):=by
  intro k hk
  obtain ⟨_,hlp⟩:=endAt_step HE.out
  exact kids_ok (by omega) hlp k (by rw [hmk] at hk;rw [hcn];exact hk)
 generalize shape kd nn ct=sh at CS hne h hsz
 obtain ⟨F,hF⟩:∃F:Nat→Bool,F=fun x=>good l d x lq:=⟨_,rfl⟩
 rw [← hF]
 have HF:Hid (∀x,F x=good l d x lq):=fun x=>by rw [hF]
 obtain ⟨m,hm⟩:∃m,m=(kids l i).length:=⟨_,rfl⟩
 have hmc:(m:Int)=ct:=by omega
 have HLK:Hid ((kids l i).length=m):=hm.symm
 clear hF hm hmk hcn
 have HA:Hid (∀wr,Below (w.heap.size+1) (w.alloc (.cells #[.int .i64 kd,.int .i64 nn,.slice at_ p ca,.slice an q cn,.int .i64 ct] 61)) wr→wr.cell? ⟨w.heap.size,0,none⟩=some (.int .i64 kd)∧wr.cell? ⟨w.heap.size,1,none⟩=some (.int .i64 nn)∧wr.cell? ⟨w.heap.size,2,none⟩=some (.slice at_ p ca)∧wr.cell? ⟨w.heap.size,3,none⟩=some (.slice an q cn)∧wr.cell? ⟨w.heap.size,4,none⟩=some (.int .i64 ct)∧Below w.heap.size w wr):=by
  intro wr hb
  have hh:=(hb.block w.heap.size (by omega)).trans (heap_alloc_new w _)
  exact ⟨by simp only [World.cell?,hh];rfl,by simp only [World.cell?,hh];rfl,by simp only [World.cell?,hh];rfl,by simp only [World.cell?,hh];rfl,by simp only [World.cell?,hh];rfl,((Below.refl _ _).alloc (Nat.le_refl _) _).trans (hb.mono (by omega))⟩
 have IHq:Hid (∀(x:Nat) (W:World),RdN W (some ⟨b,off,none⟩) l→(∃e,endAt l d x=some e)→Calls Tryz.prog 35 #[.slice (some ⟨b,off,none⟩) n cap,.int .i64 x,.bool lq] W fun r w'=>r=.returned (.bool (good l d x lq))∧Below W.heap.size W w'):=fun x W=>IH.out x lq W
 rcases hk with ⟨rfl,n8,n4,n5,n7,n19,n0⟩|⟨rfl,k⟩|⟨rfl,k⟩|⟨rfl,k⟩|⟨rfl,k⟩|⟨rfl,k,rfl⟩
 have ee:(kd==8)=false∧(kd==4)=false∧(kd==5)=false∧(kd==7)=false∧(kd==19)=false∧(kd==0)=false:=⟨by simp [n8],by simp [n4],by simp [n5],by simp [n7],by simp [n19],by simp [n0]⟩
 clear n8 n4 n5 n7 n19 n0
 rotate_left
 have ee:(kd==8)=false∧(kd==4)=true∧(kd==5)=false∧(kd==7)=false∧(kd==19)=false∧(kd==0)=false:=by rw [k];decide
 clear k
 rotate_left
 have ee:(kd==8)=false∧(kd==4)=false∧(kd==5)=true∧(kd==7)=false∧(kd==19)=false∧(kd==0)=false:=by rw [k];decide
 clear k
 rotate_left
 have ee:(kd==8)=false∧(kd==4)=false∧(kd==5)=false∧(kd==7)=true∧(kd==19)=false∧(kd==0)=false:=by rw [k];decide
 clear k
 rotate_left
 have ee:(kd==8)=false∧(kd==4)=false∧(kd==5)=false∧(kd==7)=false∧(kd==19)=true∧(kd==0)=false:=by rw [k];decide
 clear k
 rotate_left
 have ee:(kd==8)=true∧(kd==4)=false∧(kd==5)=false∧(kd==7)=false∧(kd==19)=false∧(kd==0)=false:=by rw [k];decide
 clear k
 rotate_left
 all_goals
  obtain ⟨e8,e4,e5,e7,e19,e00⟩:=ee
  go_enter Tryz.func35,Tryz.ntmps35
  go_wp2_with fail
  refine (CS.out _).mono ?_
  rintro x w1 ⟨rfl,hb1⟩
  simp only [World.size_alloc] at hb1
  obtain ⟨a0,a1,a2,a3,a4,hw1⟩:=HA.out w1 hb1
  have HB1:Hid (Below (w.heap.size+1) (w.alloc (.cells #[.int .i64 kd,.int .i64 nn,.slice at_ p ca,.slice an q cn,.int .i64 ct] 61)) w1):=hb1
  have HW1:Hid (Below w.heap.size w w1):=hw1
  have hs1:=hb1.size
  simp only [World.size_alloc] at hs1
  clear hb1 hw1 c0 c1 c2 c3 c4
  go_wp2_with fail
  refine (CF.out _ HW1.out).mono ?_
  rintro x w2 ⟨rfl,hb2⟩
  have HB2:Hid (Below (w.heap.size+1) (w.alloc (.cells #[.int .i64 kd,.int .i64 nn,.slice at_ p ca,.slice an q cn,.int .i64 ct] 61)) w2):=HB1.out.trans (hb2.mono hs1)
  obtain ⟨d0,d1,d2,d3,d4,hw2⟩:=HA.out w2 HB2.out
  have HW2:Hid (Below w.heap.size w w2):=hw2
  have hs2:=hb2.size
  clear hb2 hw2 a0 a1 a2 a3 a4
  have CK:=l3kids_any (some ⟨b,off,none⟩) n cap l w2 HL.out (HR.out.below HW2.out) _hn (d+1) i e hd HE.out
  rw [HLK.out] at CK
  go_wp2_with fail
  refine CK.mono ?_
  rintro r w3 ⟨ak,ck,rfl,ok,hb3⟩
  clear CK
  have HOK:Hid (w3.ownsRow w2.heap.size 3 1 (.slice ak m ck) m (icells (kids l i))):=ok
  have HB3:Hid (Below (w.heap.size+1) (w.alloc (.cells #[.int .i64 kd,.int .i64 nn,.slice at_ p ca,.slice an q cn,.int .i64 ct] 61)) w3):=HB2.out.trans (hb3.mono (by omega))
  have hs3:=hb3.size
  clear ok hb3 d0 d1 d2 d3 d4
  go_wp2
  go_loopw [11] (fun q wr=>∃(j:Nat),j≤m∧q=.int .i64 j∧Hid (goodKids F l false sh 0 (kids l i)=goodKids F l false sh j ((kids l i).drop j))∧Below w3.heap.size w3 wr) (fun q _=>m-(intOf q).toNat)
  case atStart=>exact ⟨0,Nat.zero_le _,rfl,rfl,Below.refl _ _⟩
  case round =>
   obtain ⟨j,hj,rfl,HJ,hbel⟩:=hrel
   have HBr:Hid (Below (w.heap.size+1) (w.alloc (.cells #[.int .i64 kd,.int .i64 nn,.slice at_ p ca,.slice an q cn,.int .i64 ct] 61)) wr):=HB3.out.trans (hbel.mono (by omega))
   obtain ⟨d0,d1,d2,d3,d4,hwr⟩:=HA.out wr HBr.out
   have HWr:Hid (Below w.heap.size w wr):=hwr
   have HBel:Hid (Below w3.heap.size w3 wr):=hbel
   have hsr:=hbel.size
   clear hwr hbel d1 d2 d3 d4
   by_cases hlt:j<m
   ·obtain ⟨ex,hex⟩:=HKO.out j (by rw [HLK.out];exact hlt)
    have hxn:=endAt_bd hex
    have HST:=goodKids_step (f:=F) (l:=l) (blk:=false) (sh:=sh) (ks:=kids l i) (j:=j) (by rw [HLK.out];exact hlt)
    rw [HLK.out] at HST
    obtain ⟨gk,rfl,hck⟩:∃gk,ak=some ⟨gk,0,none⟩∧wr.cell? ⟨gk,j,none⟩=some (.int .i64 (((kids l i).getD j 0:Nat):Int)):=by
     rcases HOK.out.2 with ⟨_,h0⟩|⟨gk,c',cur,h',_⟩
     ·omega
     ·simp only [Value.slice.injEq,true_and] at h'
      obtain ⟨rfl,rfl⟩:=h'
      refine ⟨gk,rfl,?_⟩
      rw [HBel.out.cell (p:=⟨gk,j,none⟩) (HOK.out.lt gk rfl).2,HOK.out.cellAt j (by omega)]
      have hj2:j<(kids l i).length:=by rw [HLK.out];exact hlt
      simp [icells,List.getD_eq_getElem?_getD,List.getElem?_eq_getElem hj2]
    have HSTx:Hid _:=HST
    clear HST
    have CI:=IHq.out ((kids l i).getD j 0) wr (HR.out.below HWr.out) ⟨ex,hex⟩
    rw [← HF.out] at CI
    generalize (kids l i).getD j 0=x at hck hex hxn HSTx CI
    rw [HL.out] at hxn
    obtain ⟨b',off',ux,unx,ex1,k0,_⟩:=(HR.out.below HWr.out) x (by rw [HL.out];omega)
    simp only [Option.some.injEq,Addr.mk.injEq,and_true] at ex1
    obtain ⟨rfl,rfl⟩:=ex1
    have KX:(l.getD x nd0).kind=knd l x:=rfl
    rw [KX] at k0
    clear KX hex
    have hxn1:x<n:=by omega
    have hjs:j<sh.size:=by omega
    generalize knd l x=kx at k0 HSTx
    have CT:=l3fits_any (letAt sh j) kx wr
    rw [letAt_in hjs] at CT HSTx
    cases hfit:fits ((sh[j]'hjs).toNat:Int) kx with
    |false =>
     rw [hfit] at CT
     have HBad:Hid (goodKids F l false sh 0 (kids l i)=false):=by show _=_;rw [HJ.out,HSTx.out,hfit];rfl
     clear hfit
     go_wp2_with fail
     refine CT.mono ?_
     rintro r w' ⟨rfl,hw⟩
     replace hw:=hw.symm
     subst hw
     clear CT
     go_wp2_with fail
     go_ret
     exact ⟨ret_bool (by rw [HBad.out]),HWr.out⟩
    |true =>
     rw [hfit] at CT
     have HST2:Hid (goodKids F l false sh 0 (kids l i)=(F x&&(!(false&&((kx==9 || kx==8)&&decide (j+1<m)))&&goodKids F l false sh (j+1) ((kids l i).drop (j+1))))):=by show _=_;rw [HJ.out,HSTx.out,hfit];rfl
     clear hfit HSTx
     cases hgx:F x with
     |false =>
      rw [hgx] at CI
      have HBad:Hid (goodKids F l false sh 0 (kids l i)=false):=by show _=_;rw [HST2.out,hgx];rfl
      clear hgx
      go_wp2_with fail
      refine CT.mono ?_
      rintro r w' ⟨rfl,hw⟩
      replace hw:=hw.symm
      subst hw
      clear CT
      go_wp2_with fail
      refine CI.mono ?_
      rintro r w4 ⟨rfl,hb4⟩
      clear CI
      go_wp2_with fail
      go_ret
      exact ⟨ret_bool (by rw [HBad.out]),HWr.out.trans (hb4.mono (by omega))⟩
     |true =>
      rw [hgx] at CI
      have HST3:Hid (goodKids F l false sh 0 (kids l i)=(!(false&&((kx==9 || kx==8)&&decide (j+1<m)))&&goodKids F l false sh (j+1) ((kids l i).drop (j+1)))):=by show _=_;rw [HST2.out,hgx];rfl
      clear hgx HST2
      go_wp2_with fail
      refine CT.mono ?_
      rintro r w' ⟨rfl,hw⟩
      replace hw:=hw.symm
      subst hw
      clear CT
      go_wp2_with fail
      refine CI.mono ?_
      rintro r w4 ⟨rfl,hb4⟩
      clear CI
      have HB4:Hid (Below w3.heap.size w3 w4):=HBel.out.trans (hb4.mono (by omega))
      have HW4:Hid (Below w.heap.size w w4):=HWr.out.trans (hb4.mono (by omega))
      have hk4:=(HA.out w4 (HB3.out.trans (HB4.out.mono (by omega)))).1
      clear hb4
      go_wp2_with fail
      go_roundw
      case rel=>exact ⟨j+1,by omega,by go_num,by show _=_;rw [HST3.out];rfl,HB4.out⟩
      case measure=>simp [intOf];omega
   ·have hjm:j=m:=by omega
    subst hjm
    have HE2:Hid (goodKids F l false sh 0 (kids l i)=true):=by show _=_;rw [HJ.out,List.drop_of_length_le (by rw [HLK.out];omega),goodKids]
    go_wp2
    go_ret
    exact ⟨ret_bool (by rw [HE2.out]),HWr.out⟩
theorem good0 (n cap b off i p ca q cn:Nat) (at_ an:Option Addr) (nn ct:Int) (lp:Bool) (tx:List Int) (nms:List (List Int)) (w:World) (hin:i<n) (_hn:n≤6000) (_hct:0≤ct) (_hct1:ct≤6000)
  (c0:w.cell? ⟨b,off+i*5,none⟩=some (.int .i64 0)) (c1:w.cell? ⟨b,off+i*5+1,none⟩=some (.int .i64 nn)) (c2:w.cell? ⟨b,off+i*5+2,none⟩=some (.slice at_ p ca)) (c3:w.cell? ⟨b,off+i*5+3,none⟩=some (.slice an q cn)) (c4:w.cell? ⟨b,off+i*5+4,none⟩=some (.int .i64 ct))
  (CS:Hid (∀W,Calls Tryz.prog 65 #[.agg #[.int .i64 0,.int .i64 nn,.slice at_ p ca,.slice an q cn,.int .i64 ct]] W fun x w'=>x=.returned (.string (shape 0 nn ct))∧Below W.heap.size W w'))
  (CF:Hid (∀W,Below w.heap.size w W→Calls Tryz.prog 66 #[.agg #[.int .i64 0,.int .i64 nn,.slice at_ p ca,.slice an q cn,.int .i64 ct]] W fun e w'=>e=.returned (.bool (fieldsB 0 nn tx nms))∧Below W.heap.size W w')) (hf:fieldsB 0 nn tx nms=true) (hsz:((shape 0 nn ct).size:Int)=ct) (h:((shape 0 nn ct).toList==[63])=false)
  (l:List Nd) (d e:Nat) (HL:Hid (l.length=n)) (HR:Hid (RdN w (some ⟨b,off,none⟩) l)) (HE:Hid (endAt l (d+1) i=some e)) (hd:d+1≤200) (hcn:cnt l i=ct)
  (IH:Hid (∀(x:Nat) (lp:Bool) (W:World),RdN W (some ⟨b,off,none⟩) l→(∃e,endAt l d x=some e)→Calls Tryz.prog 35 #[.slice (some ⟨b,off,none⟩) n cap,.int .i64 x,.bool lp] W fun r w'=>r=.returned (.bool (good l d x lp))∧Below W.heap.size W w')) :
  Calls Tryz.prog 35 #[.slice (some ⟨b,off,none⟩) n cap,.int .i64 i,.bool lp] w fun r w'=>r=.returned (.bool (goodKids (fun x=>good l d x lp) l true (shape 0 nn ct) 0 (kids l i)))∧Below w.heap.size w w':=by
 rw [hf] at CF
 have hne:(((shape 0 nn ct).size:Int) != ct)=false:=by rw [hsz];simp
 have hmk:(kids l i).length=ct.toNat:=by unfold kids;rw [kidsL_len,hcn]
 have HKO:Hid (∀k,k<(kids l i).length→∃e',endAt l d ((kids l i).getD k 0)=some e'):=by
  intro k hk
  obtain ⟨_,hlp⟩:=endAt_step HE.out
  exact kids_ok (by omega) hlp k (by rw [hmk] at hk;rw [hcn];exact hk)
 generalize shape 0 nn ct=sh at CS hne h hsz
 obtain ⟨F,hF⟩:∃F:Nat→Bool,F=fun x=>good l d x lp:=⟨_,rfl⟩
 rw [← hF]
 have HF:Hid (∀x,F x=good l d x lp):=fun x=>by rw [hF]
 obtain ⟨m,hm⟩:∃m,m=(kids l i).length:=⟨_,rfl⟩
 have hmc:(m:Int)=ct:=by omega
 have HLK:Hid ((kids l i).length=m):=hm.symm
 clear hF hm hmk hcn
 have HA:Hid (∀wr,Below (w.heap.size+1) (w.alloc (.cells #[.int .i64 0,.int .i64 nn,.slice at_ p ca,.slice an q cn,.int .i64 ct] 61)) wr→wr.cell? ⟨w.heap.size,0,none⟩=some (.int .i64 0)∧wr.cell? ⟨w.heap.size,1,none⟩=some (.int .i64 nn)∧wr.cell? ⟨w.heap.size,2,none⟩=some (.slice at_ p ca)∧wr.cell? ⟨w.heap.size,3,none⟩=some (.slice an q cn)∧wr.cell? ⟨w.heap.size,4,none⟩=some (.int .i64 ct)∧Below w.heap.size w wr):=by
  intro wr hb
  have hh:=(hb.block w.heap.size (by omega)).trans (heap_alloc_new w _)
  exact ⟨by simp only [World.cell?,hh];rfl,by simp only [World.cell?,hh];rfl,by simp only [World.cell?,hh];rfl,by simp only [World.cell?,hh];rfl,by simp only [World.cell?,hh];rfl,((Below.refl _ _).alloc (Nat.le_refl _) _).trans (hb.mono (by omega))⟩
 go_enter Tryz.func35,Tryz.ntmps35
 go_wp2_with fail
 refine (CS.out _).mono ?_
 rintro x w1 ⟨rfl,hb1⟩
 simp only [World.size_alloc] at hb1
 obtain ⟨a0,a1,a2,a3,a4,hw1⟩:=HA.out w1 hb1
 have HB1:Hid (Below (w.heap.size+1) (w.alloc (.cells #[.int .i64 0,.int .i64 nn,.slice at_ p ca,.slice an q cn,.int .i64 ct] 61)) w1):=hb1
 have HW1:Hid (Below w.heap.size w w1):=hw1
 have hs1:=hb1.size
 simp only [World.size_alloc] at hs1
 clear hb1 hw1 c0 c1 c2 c3 c4
 go_wp2_with fail
 refine (CF.out _ HW1.out).mono ?_
 rintro x w2 ⟨rfl,hb2⟩
 have HB2:Hid (Below (w.heap.size+1) (w.alloc (.cells #[.int .i64 0,.int .i64 nn,.slice at_ p ca,.slice an q cn,.int .i64 ct] 61)) w2):=HB1.out.trans (hb2.mono hs1)
 obtain ⟨d0,d1,d2,d3,d4,hw2⟩:=HA.out w2 HB2.out
 have HW2:Hid (Below w.heap.size w w2):=hw2
 have hs2:=hb2.size
 clear hb2 hw2 a0 a1 a2 a3 a4
 have CK:=l3kids_any (some ⟨b,off,none⟩) n cap l w2 HL.out (HR.out.below HW2.out) _hn (d+1) i e hd HE.out
 rw [HLK.out] at CK
 go_wp2_with fail
 refine CK.mono ?_
 rintro r w3 ⟨ak,ck,rfl,ok,hb3⟩
 clear CK
 have HOK:Hid (w3.ownsRow w2.heap.size 3 1 (.slice ak m ck) m (icells (kids l i))):=ok
 have HB3:Hid (Below (w.heap.size+1) (w.alloc (.cells #[.int .i64 0,.int .i64 nn,.slice at_ p ca,.slice an q cn,.int .i64 ct] 61)) w3):=HB2.out.trans (hb3.mono (by omega))
 have hs3:=hb3.size
 clear ok hb3 d0 d1 d2 d3 d4
 go_wp2
 go_loopw [11] (fun q wr=>∃(j:Nat),j≤m∧q=.int .i64 j∧Hid (goodKids F l true sh 0 (kids l i)=goodKids F l true sh j ((kids l i).drop j))∧Below w3.heap.size w3 wr) (fun q _=>m-(intOf q).toNat)
 case atStart=>exact ⟨0,Nat.zero_le _,rfl,rfl,Below.refl _ _⟩
 case round =>
  obtain ⟨j,hj,rfl,HJ,hbel⟩:=hrel
  have HBr:Hid (Below (w.heap.size+1) (w.alloc (.cells #[.int .i64 0,.int .i64 nn,.slice at_ p ca,.slice an q cn,.int .i64 ct] 61)) wr):=HB3.out.trans (hbel.mono (by omega))
  obtain ⟨d0,d1,d2,d3,d4,hwr⟩:=HA.out wr HBr.out
  have HWr:Hid (Below w.heap.size w wr):=hwr
  have HBel:Hid (Below w3.heap.size w3 wr):=hbel
  have hsr:=hbel.size
  clear hwr hbel d1 d2 d3 d4
  by_cases hlt:j<m
  ·obtain ⟨ex,hex⟩:=HKO.out j (by rw [HLK.out];exact hlt)
   have hxn:=endAt_bd hex
   have HST:=goodKids_step (f:=F) (l:=l) (blk:=true) (sh:=sh) (ks:=kids l i) (j:=j) (by rw [HLK.out];exact hlt)
   rw [HLK.out] at HST
   obtain ⟨gk,rfl,hck⟩:∃gk,ak=some ⟨gk,0,none⟩∧wr.cell? ⟨gk,j,none⟩=some (.int .i64 (((kids l i).getD j 0:Nat):Int)):=by
    rcases HOK.out.2 with ⟨_,h0⟩|⟨gk,c',cur,h',_⟩
    ·omega
    ·simp only [Value.slice.injEq,true_and] at h'
     obtain ⟨rfl,rfl⟩:=h'
     refine ⟨gk,rfl,?_⟩
     rw [HBel.out.cell (p:=⟨gk,j,none⟩) (HOK.out.lt gk rfl).2,HOK.out.cellAt j (by omega)]
     have hj2:j<(kids l i).length:=by rw [HLK.out];exact hlt
     simp [icells,List.getD_eq_getElem?_getD,List.getElem?_eq_getElem hj2]
   have HSTx:Hid _:=HST
   clear HST
   have CI:=IH.out ((kids l i).getD j 0) (lp) wr (HR.out.below HWr.out) ⟨ex,hex⟩
   rw [← HF.out] at CI
   generalize (kids l i).getD j 0=x at hck hex hxn HSTx CI
   rw [HL.out] at hxn
   obtain ⟨b',off',ux,unx,ex1,k0,_⟩:=(HR.out.below HWr.out) x (by rw [HL.out];omega)
   simp only [Option.some.injEq,Addr.mk.injEq,and_true] at ex1
   obtain ⟨rfl,rfl⟩:=ex1
   have KX:(l.getD x nd0).kind=knd l x:=rfl
   rw [KX] at k0
   clear KX hex
   have hxn1:x<n:=by omega
   have hjs:j<sh.size:=by omega
   generalize knd l x=kx at k0 HSTx
   have CT:=l3fits_any (letAt sh j) kx wr
   rw [letAt_in hjs] at CT HSTx
   cases hfit:fits ((sh[j]'hjs).toNat:Int) kx with
   |false =>
    rw [hfit] at CT
    have HBad:Hid (goodKids F l true sh 0 (kids l i)=false):=by show _=_;rw [HJ.out,HSTx.out,hfit];rfl
    clear hfit
    go_wp2_with fail
    refine CT.mono ?_
    rintro r w' ⟨rfl,hw⟩
    replace hw:=hw.symm
    subst hw
    clear CT
    go_wp2_with fail
    go_ret
    exact ⟨ret_bool (by rw [HBad.out]),HWr.out⟩
   |true =>
    rw [hfit] at CT
    have HST2:Hid (goodKids F l true sh 0 (kids l i)=(F x&&(!(true&&((kx==9 || kx==8)&&decide (j+1<m)))&&goodKids F l true sh (j+1) ((kids l i).drop (j+1))))):=by show _=_;rw [HJ.out,HSTx.out,hfit];rfl
    clear hfit HSTx
    cases hgx:F x with
    |false =>
     rw [hgx] at CI
     have HBad:Hid (goodKids F l true sh 0 (kids l i)=false):=by show _=_;rw [HST2.out,hgx];rfl
     clear hgx
     go_wp2_with fail
     refine CT.mono ?_
     rintro r w' ⟨rfl,hw⟩
     replace hw:=hw.symm
     subst hw
     clear CT
     go_wp2_with fail
     refine CI.mono ?_
     rintro r w4 ⟨rfl,hb4⟩
     clear CI
     go_wp2_with fail
     go_ret
     exact ⟨ret_bool (by rw [HBad.out]),HWr.out.trans (hb4.mono (by omega))⟩
    |true =>
     rw [hgx] at CI
     have HST3:Hid (goodKids F l true sh 0 (kids l i)=(!(true&&((kx==9 || kx==8)&&decide (j+1<m)))&&goodKids F l true sh (j+1) ((kids l i).drop (j+1)))):=by show _=_;rw [HST2.out,hgx];rfl
     clear hgx HST2
     go_wp2_with fail
     refine CT.mono ?_
     rintro r w' ⟨rfl,hw⟩
     replace hw:=hw.symm
     subst hw
     clear CT
     go_wp2_with fail
     refine CI.mono ?_
     rintro r w4 ⟨rfl,hb4⟩
     clear CI
     have HB4:Hid (Below w3.heap.size w3 w4):=HBel.out.trans (hb4.mono (by omega))
     have HW4:Hid (Below w.heap.size w w4):=HWr.out.trans (hb4.mono (by omega))
     have hk4:=(HA.out w4 (HB3.out.trans (HB4.out.mono (by omega)))).1
     clear hb4
     by_cases hrb:kx=9∨kx=8
     ·by_cases hlast:j+1<m
      ·have HBad:Hid (goodKids F l true sh 0 (kids l i)=false):=by
        show _=_
        rw [HST3.out,decide_eq_true hlast]
        rcases hrb with rfl|rfl <;> rfl
       have hl1:(j:Int)<(m:Int)-1:=by omega
       rcases hrb with rfl|rfl
       all_goals
        go_wp2_with fail
        go_ret
        exact ⟨ret_bool (by rw [HBad.out]),HW4.out⟩
      ·have HGo:Hid (goodKids F l true sh 0 (kids l i)=goodKids F l true sh (j+1) ((kids l i).drop (j+1))):=by
        show _=_
        rw [HST3.out,decide_eq_false hlast]
        simp
       have hl1:decide ((j:Int)<(m:Int)-1)=false:=by simp;omega
       rcases hrb with rfl|rfl
       all_goals
        go_wp2_with fail
        go_roundw
        case rel=>exact ⟨j+1,by omega,by go_num,HGo,HB4.out⟩
        case measure=>simp [intOf];omega
     ·have HGo:Hid (goodKids F l true sh 0 (kids l i)=goodKids F l true sh (j+1) ((kids l i).drop (j+1))):=by
       show _=_
       rw [HST3.out,show (kx==9 || kx==8)=false by simp;omega]
       simp
      have x9:(kx==9)=false:=by simp;omega
      have x8:(kx==8)=false:=by simp;omega
      go_wp2_with fail
      go_roundw
      case rel=>exact ⟨j+1,by omega,by go_num,HGo,HB4.out⟩
      case measure=>simp [intOf];omega
  ·have hjm:j=m:=by omega
   subst hjm
   have HE2:Hid (goodKids F l true sh 0 (kids l i)=true):=by show _=_;rw [HJ.out,List.drop_of_length_le (by rw [HLK.out];omega),goodKids]
   go_wp2
   go_ret
   exact ⟨ret_bool (by rw [HE2.out]),HWr.out⟩
end vt
end Go.Proofs.YtkmiagkehcflnaaGreatDoor
