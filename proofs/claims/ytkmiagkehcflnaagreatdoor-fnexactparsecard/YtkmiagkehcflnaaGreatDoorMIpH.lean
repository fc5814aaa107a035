import Derived.Deep.RegionWith
import Derived.Deep.DeepCutAuto
import Derived.Test.YtkmiagkehcflnaaGreatDoorMIpG
set_option maxRecDepth 100000
set_option maxHeartbeats 8000000
namespace Go.Proofs.YtkmiagkehcflnaaGreatDoor
namespace ip
open Go.RowKit bts nod lex tk vt
open ps (En Ps isP kindP now wrong want got nameT nameS textOf over up_fq own_far bel_alloc pz need need_or cOk ends names starts named bare longer)
theorem oper_bd (zs:List Int) (T:List (Int×Nat×Nat)) (s:Ps):0≤(ps.oper zs T s).2∧(ps.oper zs T s).2≤6∧0≤(ps.oper zs T s).1.kind∧(ps.oper zs T s).1.kind≤26∧0≤(ps.oper zs T s).1.n∧(ps.oper zs T s).1.n≤11:=by
 rw [oper_un]
 by_cases h0:isP zs T s {data:=#[111,114]}=true
 ·rw [if_pos h0];decide
 rw [if_neg h0]
 by_cases h1:isP zs T s {data:=#[97,110,100]}=true
 ·rw [if_pos h1];decide
 rw [if_neg h1]
 by_cases h2:isP zs T s {data:=#[43]}=true
 ·rw [if_pos h2];decide
 rw [if_neg h2]
 by_cases h3:isP zs T s {data:=#[45]}=true
 ·rw [if_pos h3];decide
 rw [if_neg h3]
 by_cases h4:isP zs T s {data:=#[42]}=true
 ·rw [if_pos h4];decide
 rw [if_neg h4]
 by_cases h5:isP zs T s {data:=#[47,47]}=true
 ·rw [if_pos h5];decide
 rw [if_neg h5]
 by_cases h6:isP zs T s {data:=#[37]}=true
 ·rw [if_pos h6];decide
 rw [if_neg h6]
 by_cases h7:isP zs T s {data:=#[46,46]}=true
 ·rw [if_pos h7];decide
 rw [if_neg h7]
 by_cases h8:isP zs T s {data:=#[61,61]}=true
 ·rw [if_pos h8];decide
 rw [if_neg h8]
 by_cases h9:isP zs T s {data:=#[126,61]}=true
 ·rw [if_pos h9];decide
 rw [if_neg h9]
 by_cases h10:isP zs T s {data:=#[60]}=true
 ·rw [if_pos h10];decide
 rw [if_neg h10]
 by_cases h11:isP zs T s {data:=#[60,61]}=true
 ·rw [if_pos h11];decide
 rw [if_neg h11]
 by_cases h12:isP zs T s {data:=#[62]}=true
 ·rw [if_pos h12];decide
 rw [if_neg h12]
 by_cases h13:isP zs T s {data:=#[62,61]}=true
 ·rw [if_pos h13];decide
 rw [if_neg h13]
 decide
theorem fq_cell {g b o:Nat} {w w':World} {v:Value} (hF:Fq g w w') (hb:¬b=g) (h:w.cell? ⟨b,o,none⟩=some v):w'.cell? ⟨b,o,none⟩=some v:=by
 have:=hF.keep b (World.block_lt_of_cell? _ _ h) hb
 unfold World.cell? at h ⊢
 rw [this]
 exact h
theorem bt {a b c:World} (h2:Below b.heap.size b c) (h1:Below a.heap.size a b):Below a.heap.size a c:=h1.trans (h2.mono h1.size)
theorem p1 (zs:List Int) (T:List (Int×Nat×Nat)) (m:Nat) (n:Int) (ks:List (List Nd)) {q:Ps} (hq:q.bad<0):pz zs T (m+1) 1 n ks q=if (ps.oper zs T q).2<n∨(ps.oper zs T q).2=0 then (ks,0,q) else pz zs T m 1 n [tk.node (ps.oper zs T q).1 (ks++(pz zs T m 0 (if (ps.oper zs T q).2=4 then (ps.oper zs T q).2 else (ps.oper zs T q).2+1) [] (ps.step q)).1)] (pz zs T m 0 (if (ps.oper zs T q).2=4 then (ps.oper zs T q).2 else (ps.oper zs T q).2+1) [] (ps.step q)).2.2:=by
 rw [ps.pz_1]
 unfold ps.pB1
 rw [if_neg (by omega)]
theorem bin_next {E:En} (hI:Ir E) {f:Nat} (A:∀m,m≤f→Ia E m) (n:Int) (s:Ps) (h1n:1≤n) (h7n:n≤7) (hn:need E.T 0 s≤f+1):Nod E 120 (ag2 n) s (pz E.zs E.T (f+1) 0 n [] s):=by
 intro w g hP
 have C:Hid (Cz E w g nil [] nil 0 [] [] w s):=Cz.start hI hP
 have HI:Hid (Ir E):=hI
 have HA:Hid (∀m,m≤f→Ia E m):=A
 have HM:E.T.length≤6000:=hI.many
 have K:Hid (20*(E.T.length-s.at_)+6≤f+1∧s.at_≤E.T.length∧s.bad<0):=⟨by rw [need_ok 0 hP.2.2.2.2] at hn;exact hn,hP.2.2.2.1,hP.2.2.2.2⟩
 have J:Hid (pz E.zs E.T (f+1) 0 n [] s=pz E.zs E.T f 1 n (pz E.zs E.T f 2 0 [] s).1 (pz E.zs E.T f 2 0 [] s).2.2):=rfl
 generalize (pz E.zs E.T (f+1) 0 n [] s)=r at J ⊢
 clear hn hI A hP
 unfold ag2
 go_enter Tryz.func120,Tryz.ntmps120
 go_wp2_with (go_at_call 126;refine (C.out.cal (by decide) ((HA.out f (Nat.le_refl _)).una _) (by have k:=K.out;have c:=C.out.ip.2.2.2;rw [need_ok _ c.2];simp only [cOk];omega)).mono ?_;rintro e w1 (⟨hb,ha,T1,g1,l1,rfl,hl,hC⟩|⟨hb,rfl,hF⟩);rotate_left;exact ⟨rfl,dead hF hb (by rw [J.out,pz_off _ _ _ _ _ hb])⟩;simp only [List.nil_append] at hC;have C2:Hid _:=hC;replace K:Hid (_∧_∧_∧_):=⟨hb,ha,hl,K.out⟩;clear C hC hb ha hl)
 have X:Hid (∃m,m≤f∧20*(E.T.length-(pz E.zs E.T f 2 0 [] s).2.2.at_)+5≤m∧r=pz E.zs E.T m 1 n [l1] (pz E.zs E.T f 2 0 [] s).2.2):=⟨f,Nat.le_refl _,(by have k:=K.out;have c:=C2.out.ip.2.2.2;omega),by rw [J.out,K.out.2.2.1]⟩
 clear J K
 go_loopw [5] (fun v wr=>∃(m T1 g1:Nat) (l:List Nd) (q:Ps),v=.iface T1 (.pointer (some ⟨g1,0,none⟩))∧Hid (Cz E w g nil [] nil 0 [.iface T1 (.pointer (some ⟨g1,0,none⟩))] [l] wr q)∧Hid (m≤f∧20*(E.T.length-q.at_)+5≤m∧r=pz E.zs E.T m 1 n [l] q)) (fun _ wr=>mI E g wr)
 case atStart =>
  obtain ⟨m,h1,h2,h3⟩:=X.out
  exact ⟨m,T1,g1,l1,_,rfl,C2,⟨h1,h2,h3⟩⟩
 case round =>
  obtain ⟨m,T1,g1,l,q,rfl,C,H⟩:=hrel
  have hms:=mI_eq C.out.ip
  have hq:=C.out.ip.2.2.2.1
  have k0:Hid (q.bad<0):=C.out.ip.2.2.2.2
  obtain ⟨m,rfl⟩:∃m',m=m'+1:=⟨m-1,by have:=H.out;omega⟩
  have K:Hid (20*(E.T.length-q.at_)+5≤m+1∧q.at_≤E.T.length):=⟨H.out.2.1,hq⟩
  clear C2 X
  -- the token at hand
  have hf:=HI.out.fits hq
  obtain ⟨sg,hlk,hsg,hnd⟩:=look_oper HI.out C.out.ip
  have ob:=oper_bd E.zs E.T q
  have hR:Hid (r=if (ps.oper E.zs E.T q).2<n∨(ps.oper E.zs E.T q).2=0 then ([l],0,q) else pz E.zs E.T m 1 n [tk.node (ps.oper E.zs E.T q).1 ([l]++(pz E.zs E.T m 0 (if (ps.oper E.zs E.T q).2=4 then (ps.oper E.zs E.T q).2 else (ps.oper E.zs E.T q).2+1) [] (ps.step q)).1)] (pz E.zs E.T m 0 (if (ps.oper E.zs E.T q).2=4 then (ps.oper E.zs E.T q).2 else (ps.oper E.zs E.T q).2+1) [] (ps.step q)).2.2):=H.out.2.2.trans (p1 _ _ _ _ _ k0.out)
  have hat:Hid (¬(ps.oper E.zs E.T q).2=0→q.at_<E.T.length):=fun h=>(ps.oper_lt h).2
  have B:Hid (∀W,Below wr.heap.size wr W→Calls Tryz.prog 102 #[.pointer (some ⟨g,0,none⟩),.agg #[.int .i64 (tok E q.at_).1,.int .i64 (tok E q.at_).2.1,.int .i64 (tok E q.at_).2.2]] W fun e w'=>e=.returned (.slice (bo E (tok E q.at_).2.1) (tok E q.at_).2.2 (E.sc-(tok E q.at_).2.1))∧Below W.heap.size W w'):=fun W hW=>bytesOf_any HI.out (C.out.ip.keep hW) _ hf
  have V:Hid (∀W,Below wr.heap.size wr W→(convert 22 9 (.slice (bo E (tok E q.at_).2.1) (tok E q.at_).2.2 (E.sc-(tok E q.at_).2.1))).run Tryz.prog W=.ok (.string (strOfNums (lex.part E.zs (tok E q.at_).2.1 (tok E q.at_).2.2))) W):=fun W hW=>conv_bo HI.out (C.out.ip.keep hW).1 hf
  have O:Hid (∀W,Below wr.heap.size wr W→Calls Tryz.prog 127 #[.string (strOfNums (lex.part E.zs (tok E q.at_).2.1 (tok E q.at_).2.2))] W fun e w'=>e=.returned (.agg #[.string sg,.int .i64 (ps.oper E.zs E.T q).1.kind,.int .i64 (ps.oper E.zs E.T q).1.n,.int .i64 (ps.oper E.zs E.T q).2])∧Below W.heap.size W w'):=fun W hW=>by
   have:=bySign_any (strOfNums (lex.part E.zs (tok E q.at_).2.1 (tok E q.at_).2.2)) W (HI.out.ops.below (C.out.ip.keep hW).1)
   rw [hlk] at this
   exact this
  have c1:wr.cell? ⟨g,1,none⟩=some (.slice E.tv (E.T.length+1) E.tc):=C.out.ip.2.2.1.at (j:=1) (by omega)
  have c2:wr.cell? ⟨g,2,none⟩=some (.int .i64 (q.at_:Int)):=C.out.ip.c2
  have d3:(q.at_:Int)<((E.T.length+1:Nat):Int):=by omega
  obtain ⟨gT,e,t0,t1,t2⟩:=HI.out.toks.below C.out.ip.1 q.at_ (by simp;omega)
  change wr.cell? _=some (.int .i64 (tok E q.at_).1) at t0
  change wr.cell? _=some (.int .i64 ((tok E q.at_).2.1:Int)) at t1
  change wr.cell? _=some (.int .i64 ((tok E q.at_).2.2:Int)) at t2
  rw [e] at c1
  generalize strOfNums (lex.part E.zs (tok E q.at_).2.1 (tok E q.at_).2.2)=x at V O hlk
  generalize bo E (tok E q.at_).2.1=bv at B V
  generalize E.sc-(tok E q.at_).2.1=bc at B V
  generalize (tok E q.at_).1=tk0 at B t0
  generalize (tok E q.at_).2.1=ta at B t1 hf
  generalize (tok E q.at_).2.2=tn at B V t2 hf
  obtain ⟨nT,hnT⟩:∃nT,nT=E.T.length+1:=⟨_,rfl⟩
  rw [← hnT] at c1 d3
  have HC:Hid (∀W,Below wr.heap.size wr W→W.cell? ⟨g,1,none⟩=some (.slice (some ⟨gT,0,none⟩) nT E.tc)∧W.cell? ⟨g,2,none⟩=some (.int .i64 (q.at_:Int))∧W.cell? ⟨gT,q.at_*3,none⟩=some (.int .i64 tk0)∧W.cell? ⟨gT,q.at_*3+1,none⟩=some (.int .i64 (ta:Int))∧W.cell? ⟨gT,q.at_*3+2,none⟩=some (.int .i64 (tn:Int))∧(convert 22 9 (.slice bv tn bc)).run Tryz.prog W=.ok (.string x) W):=fun W hW=>⟨cellB c1 hW,cellB c2 hW,cellB t0 hW,cellB t1 hW,cellB t2 hW,V.out W hW⟩
  have HN:Hid ((ps.oper E.zs E.T q).1=⟨(ps.oper E.zs E.T q).1.kind,(ps.oper E.zs E.T q).1.n,[],[],0⟩):=hnd
  generalize (ps.oper E.zs E.T q)=op at *
  obtain ⟨nd,bn⟩:=op
  simp only at *
  generalize nd.kind=kd at *
  generalize nd.n=nn at *
  obtain ⟨b0,b6,kd0,kd26,nn0,nn11⟩:=ob
  clear e hf hlk hnd hnT c1 c2 t0 t1 t2 V
  go_wp2_with fail
  go_cut [6] from 10 to 23 (fun v wx=>∃ob:Nat,v=.pointer (some ⟨ob,0,none⟩)∧Hid (wr.heap.size≤ob∧Below wr.heap.size wr wx∧tk.Lone 208 4 wx ob [.string sg,.int .i64 kd,.int .i64 nn,.int .i64 bn]))
  case first =>
   go_region_held3 (fun W=>W.cell? ⟨g,1,none⟩=some (.slice (some ⟨gT,0,none⟩) nT E.tc)∧W.cell? ⟨g,2,none⟩=some (.int .i64 (q.at_:Int))∧W.cell? ⟨gT,q.at_*3,none⟩=some (.int .i64 tk0)∧W.cell? ⟨gT,q.at_*3+1,none⟩=some (.int .i64 (ta:Int))∧W.cell? ⟨gT,q.at_*3+2,none⟩=some (.int .i64 (tn:Int))∧(convert 22 9 (.slice bv tn bc)).run Tryz.prog W=.ok (.string x) W) (first|exact HC.out _ (by repeat (first|exact Below.refl _ _|exact HB2.out|exact HB1.out|refine Below.drew ?_|refine tk.bel_drewN ?_ _|refine Below.alloc ?_ (Below.size HB2.out) _|refine Below.alloc ?_ (Below.size HB1.out) _|refine Below.alloc ?_ (Nat.le_refl _) _|refine Below.setCell (p:=⟨_,_,none⟩) ?_ (by first|exact HB1.out.size|exact HB2.out.size|exact Nat.le_refl _) _))) ((first
    |(go_at_call 102;refine (B.out _ (by repeat (first|exact Below.refl _ _|exact HB2.out|exact HB1.out|refine Below.drew ?_|refine tk.bel_drewN ?_ _|refine Below.alloc ?_ (Below.size HB2.out) _|refine Below.alloc ?_ (Below.size HB1.out) _|refine Below.alloc ?_ (Nat.le_refl _) _|refine Below.setCell (p:=⟨_,_,none⟩) ?_ (by first|exact HB1.out.size|exact HB2.out.size|exact Nat.le_refl _) _))).mono ?_;rintro e w1 ⟨rfl,hb⟩;have HB1:Hid (Below wr.heap.size wr w1):=bt hb (by repeat (first|exact Below.refl _ _|exact HB2.out|exact HB1.out|refine Below.drew ?_|refine tk.bel_drewN ?_ _|refine Below.alloc ?_ (Below.size HB2.out) _|refine Below.alloc ?_ (Below.size HB1.out) _|refine Below.alloc ?_ (Nat.le_refl _) _|refine Below.setCell (p:=⟨_,_,none⟩) ?_ (by first|exact HB1.out.size|exact HB2.out.size|exact Nat.le_refl _) _));(try (have L1:Hid (tk.Lone 208 4 w1 wr.heap.size [.string {data:=#[]},.int .i64 0,.int .i64 0,.int .i64 0]):=(tk.Lone.below (w:=World.drew (World.alloc wr _)) (tk.Lone.of (heap_alloc_new wr _) rfl) hb (by show wr.heap.size<(World.alloc wr _).heap.size;rw [World.size_alloc];omega))));clear hb)
    |(go_at_call 127;refine (O.out _ (by repeat (first|exact Below.refl _ _|exact HB2.out|exact HB1.out|refine Below.drew ?_|refine tk.bel_drewN ?_ _|refine Below.alloc ?_ (Below.size HB2.out) _|refine Below.alloc ?_ (Below.size HB1.out) _|refine Below.alloc ?_ (Nat.le_refl _) _|refine Below.setCell (p:=⟨_,_,none⟩) ?_ (by first|exact HB1.out.size|exact HB2.out.size|exact Nat.le_refl _) _))).mono ?_;rintro e w2 ⟨rfl,hb⟩;have HB2:Hid (Below wr.heap.size wr w2):=bt hb (by repeat (first|exact Below.refl _ _|exact HB2.out|exact HB1.out|refine Below.drew ?_|refine tk.bel_drewN ?_ _|refine Below.alloc ?_ (Below.size HB2.out) _|refine Below.alloc ?_ (Below.size HB1.out) _|refine Below.alloc ?_ (Nat.le_refl _) _|refine Below.setCell (p:=⟨_,_,none⟩) ?_ (by first|exact HB1.out.size|exact HB2.out.size|exact Nat.le_refl _) _));(first|(have L2:Hid (tk.Lone 208 4 w2 _ [.string {data:=#[]},.int .i64 0,.int .i64 0,.int .i64 0]):=(L1.out.below hb (heap_lt L1.out.back));have c0:=L2.out.at (j:=0) (by omega);have c1:=L2.out.at (j:=1) (by omega);have c2:=L2.out.at (j:=2) (by omega);have c3:=L2.out.at (j:=3) (by omega);have f0:=L2.out.free 0;have f1:=L2.out.free 1;have f2:=L2.out.free 2;have f3:=L2.out.free 3;simp only [List.getElem?_cons_zero,List.getElem?_cons_succ] at c0 c1 c2 c3)|(have L2:Hid (tk.Lone 208 4 w2 _ [.string {data:=#[]},.int .i64 0,.int .i64 0,.int .i64 0]):=(tk.Lone.of (heap_alloc_new _ _) rfl).below hb (by simp);have c0:=L2.out.at (j:=0) (by omega);have c1:=L2.out.at (j:=1) (by omega);have c2:=L2.out.at (j:=2) (by omega);have c3:=L2.out.at (j:=3) (by omega);have f0:=L2.out.free 0;have f1:=L2.out.free 1;have f2:=L2.out.free 2;have f3:=L2.out.free 3;simp only [List.getElem?_cons_zero,List.getElem?_cons_succ] at c0 c1 c2 c3)|skip);clear hb)))
   all_goals
    go_wp2_with fail
    go_meet
    case rel=>first
     |exact ⟨_,rfl,HB2.out.size,(by repeat (first|exact Below.refl _ _|exact HB2.out|exact HB1.out|refine Below.drew ?_|refine tk.bel_drewN ?_ _|refine Below.alloc ?_ (Below.size HB2.out) _|refine Below.alloc ?_ (Below.size HB1.out) _|refine Below.alloc ?_ (Nat.le_refl _) _|refine Below.setCell (p:=⟨_,_,none⟩) ?_ (by first|exact HB1.out.size|exact HB2.out.size|exact Nat.le_refl _) _)),tk.Lone.of (heap_alloc_new w2 _) rfl⟩
     |exact ⟨_,rfl,HB1.out.size,(by repeat (first|exact Below.refl _ _|exact HB2.out|exact HB1.out|refine Below.drew ?_|refine tk.bel_drewN ?_ _|refine Below.alloc ?_ (Below.size HB2.out) _|refine Below.alloc ?_ (Below.size HB1.out) _|refine Below.alloc ?_ (Nat.le_refl _) _|refine Below.setCell (p:=⟨_,_,none⟩) ?_ (by first|exact HB1.out.size|exact HB2.out.size|exact Nat.le_refl _) _)),(((L2.out.set 0 _).set 1 _).set 2 _).set 3 _⟩
     |exact ⟨_,rfl,Nat.le_refl _,(by repeat (first|exact Below.refl _ _|exact HB2.out|exact HB1.out|refine Below.drew ?_|refine tk.bel_drewN ?_ _|refine Below.alloc ?_ (Below.size HB2.out) _|refine Below.alloc ?_ (Below.size HB1.out) _|refine Below.alloc ?_ (Nat.le_refl _) _|refine Below.setCell (p:=⟨_,_,none⟩) ?_ (by first|exact HB1.out.size|exact HB2.out.size|exact Nat.le_refl _) _)),(((L2.out.set 0 _).set 1 _).set 2 _).set 3 _⟩
  case rest =>
   obtain ⟨ob,rfl,HX⟩:=hcut
   obtain ⟨hob,hBx,hLx⟩:=HX.out
   have y1:wc.cell? ⟨ob,1,none⟩=some (.int .i64 kd):=hLx.at (j:=1) (by omega)
   have y2:wc.cell? ⟨ob,2,none⟩=some (.int .i64 nn):=hLx.at (j:=2) (by omega)
   have y3:wc.cell? ⟨ob,3,none⟩=some (.int .i64 bn):=hLx.at (j:=3) (by omega)
   have y0:wc.cell? ⟨ob,0,none⟩=some (.string sg):=hLx.at (j:=0) (by omega)
   have hC:=(C.out.bel hBx).1
   have hg0:=C.out.ip.lt
   replace C:Hid _:=hC
   clear hC hBx hLx B O HC d3
   by_cases hlt:bn<n
   ·have hdl:decide (bn<n)=true:=decide_eq_true hlt
    clear y0 y1 y2
    go_wp2_with fail
    go_returns
    have e:r=([l],0,q):=by rw [hR.out,if_pos (.inl hlt)]
    exact C.out.done (by rw [e]) (by rw [e])
   ·have hat2:=hat.out (by omega)
    have hdl:decide (bn<n)=false:=decide_eq_false hlt
    have c2:wc.cell? ⟨g,2,none⟩=some (.int .i64 (q.at_:Int)):=C.out.ip.c2
    have f2:=C.out.ip.2.2.1.free 2
    have hq6:q.at_≤6000:=by omega
    obtain ⟨W4,hW4⟩:∃W4,W4=wc.setCell ⟨g,2,none⟩ (.int .i64 ((q.at_:Int)+1)):=⟨_,rfl⟩
    have C4:Hid (Cz E w g nil [] nil 0 [.iface T1 (.pointer (some ⟨g1,0,none⟩))] [l] W4 (ps.step q)):=by
     rw [hW4]
     exact C.out.to (Fq.set _ _) (ip_step C.out.ip hat2)
    have hne:¬ob=g:=by omega
    have z:∀j,W4.cell? ⟨ob,j,none⟩=wc.cell? ⟨ob,j,none⟩:=fun j=>by rw [hW4];exact World.cell?_setCell_other _ _ _ _ (by simp)
    have z0:W4.cell? ⟨ob,0,none⟩=some (.string sg):=(z 0).trans y0
    have z1:W4.cell? ⟨ob,1,none⟩=some (.int .i64 kd):=(z 1).trans y1
    have z2:W4.cell? ⟨ob,2,none⟩=some (.int .i64 nn):=(z 2).trans y2
    have z3:W4.cell? ⟨ob,3,none⟩=some (.int .i64 bn):=(z 3).trans y3
    rw [hW4] at z0 z1 z2 z3
    have hR2:Hid (r=pz E.zs E.T m 1 n [tk.node nd ([l]++(pz E.zs E.T m 0 (if bn=4 then bn else bn+1) [] (ps.step q)).1)] (pz E.zs E.T m 0 (if bn=4 then bn else bn+1) [] (ps.step q)).2.2):=by show _=_;rw [hR.out,if_neg (by omega)]
    have HD:Hid (∀W,Ip E W g (ps.step q)→Calls Tryz.prog 120 #[.pointer (some ⟨g,0,none⟩),.int .i64 (if bn=4 then bn else bn+1)] W (Pn E (pz E.zs E.T m 0 (if bn=4 then bn else bn+1) [] (ps.step q)) g W)):=fun W hW=>(HA.out m (by have:=H.out.1;omega)).bin _ _ (by split <;> omega) (by split <;> omega) (by have k:=K.out;rw [need_ok _ hW.2.2.2.2];simp only [cOk];have:(ps.step q).at_=q.at_+1:=rfl;omega) W g hW
    have HAt:Hid (q.at_+1≤(pz E.zs E.T m 0 (if bn=4 then bn else bn+1) [] (ps.step q)).2.2.at_):=by
     have:=(ps.gd_at (ps.pz_gd E.zs E.T m 0 (if bn=4 then bn else bn+1) [] (ps.step q) (by decide) (by have k:=K.out;rw [need_ok _ (by exact k0.out)];simp only [cOk];have:(ps.step q).at_=q.at_+1:=rfl;omega))).1
     exact this
    have RF:=fun W=>right_any sg kd nn bn W
    rw [hsg] at RF
    clear hR hat y0 y1 y2 C z hsg
    by_cases h4:bn=4
    ·subst h4
     simp only [if_true,decide_true] at *
     go_wp2_with (go_at_call 128;refine (RF _).mono ?_;rintro e w5 ⟨rfl,hb⟩;have v1:=cellB z1 hb;have v2:=cellB z2 hb;have v3:=cellB z3 hb;rw [← hW4] at hb;have C5:Hid _:=(C4.out.bel hb).1;clear hb)
     have hol:ob<w5.heap.size:=World.block_lt_of_cell? _ _ v1
     have HV:Hid (∀W,Below w5.heap.size w5 W→W.cell? ⟨ob,1,none⟩=some (.int .i64 kd)∧W.cell? ⟨ob,2,none⟩=some (.int .i64 nn)):=fun W hW=>⟨cellB v1 hW,cellB v2 hW⟩
     clear C4 hW4 z0 z1 z2 z3 v3 RF hob
     rcases Int.lt_or_le (pz E.zs E.T m 0 (4) [] (ps.step q)).2.2.bad 0 with hbd|hbd
     rotate_left
     ·have HB:Hid (0≤(pz E.zs E.T m 0 (4) [] (ps.step q)).2.2.bad):=hbd
      clear hbd HV hol
      go_region_dies
      all_goals
       refine (HD.out _ (C5.out.ip.keep (by repeat (first|exact Below.refl _ _|refine Below.drew ?_|refine tk.bel_drewN ?_ _)))).mono ?_
       rintro e w6 ⟨hF,⟨hb,_⟩|⟨hb,rfl⟩⟩
       ·exact absurd hb (Int.not_lt.2 HB.out)
       ·exact ⟨rfl,dead ((C5.out.bel (by repeat (first|exact Below.refl _ _|refine Below.drew ?_|refine tk.bel_drewN ?_ _))).1.fq.trans hF) HB.out (by rw [hR2.out,pz_off _ _ _ _ _ HB.out])⟩
     have HB:Hid ((pz E.zs E.T m 0 (4) [] (ps.step q)).2.2.bad<0):=hbd
     clear hbd v1 v2
     go_region_held3 (fun W=>W.cell? ⟨ob,1,none⟩=some (.int .i64 kd)∧W.cell? ⟨ob,2,none⟩=some (.int .i64 nn)) (first|exact HS7.out _ (by repeat (first|exact Below.refl _ _|refine Below.drew ?_|refine tk.bel_drewN ?_ _|refine Below.alloc ?_ (Nat.le_refl _) _))|exact HS.out _ (by repeat (first|exact Below.refl _ _|refine Below.drew ?_|refine tk.bel_drewN ?_ _|refine Below.alloc ?_ (Nat.le_refl _) _))|exact HV.out _ (by repeat (first|exact Below.refl _ _|refine Below.drew ?_|refine tk.bel_drewN ?_ _))) ((first
      |(go_at_call 120;refine (HD.out _ (C5.out.ip.keep (by repeat (first|exact Below.refl _ _|refine Below.drew ?_|refine tk.bel_drewN ?_ _)))).mono ?_;rintro e w6 ⟨hF,⟨hb,u,rfl,l2,h1,h2,h3⟩|⟨hb,rfl⟩⟩;rotate_left;exact absurd HB.out (Int.not_lt.2 hb);obtain ⟨T2,g2,rfl⟩:=h2.isI;have HS:Hid (∀W,Below w6.heap.size w6 W→W.cell? ⟨ob,1,none⟩=some (.int .i64 kd)∧W.cell? ⟨ob,2,none⟩=some (.int .i64 nn)):=fun W hW=>⟨cellB (fq_cell hF hne (HV.out _ (by repeat (first|exact Below.refl _ _|refine Below.drew ?_|refine tk.bel_drewN ?_ _))).1) hW,cellB (fq_cell hF hne (HV.out _ (by repeat (first|exact Below.refl _ _|refine Below.drew ?_|refine tk.bel_drewN ?_ _))).2) hW⟩;have C6:Hid (Cz E w g nil [] nil 0 [.iface T1 (.pointer (some ⟨g1,0,none⟩)),.iface T2 (.pointer (some ⟨g2,0,none⟩))] [l,l2] w6 _):=((C5.out.bel (by repeat (first|exact Below.refl _ _|refine Below.drew ?_|refine tk.bel_drewN ?_ _))).1.push hF h3 h2);have G:Hid _:=h1;clear hF hb h1 h2 h3)
      |(go_at_call 84;refine (C6.out.lit (kd:=kd) (nn:=nn) rfl (by simp) ⟨kd0,kd26⟩ ⟨by omega,by omega⟩ (by decide)).mono ?_;rintro e w7 ⟨T3,g3,rfl,hC,hF⟩;have C7:Hid _:=hC;have HS7:Hid (∀W,Below w7.heap.size w7 W→W.cell? ⟨ob,1,none⟩=some (.int .i64 kd)∧W.cell? ⟨ob,2,none⟩=some (.int .i64 nn)):=fun W hW=>⟨cellB (fq_cell hF hne (HS.out _ (Below.refl _ _)).1) hW,cellB (fq_cell hF hne (HS.out _ (Below.refl _ _)).2) hW⟩;clear hC hF)))
     all_goals
      go_wp2_with fail
      go_roundw
      case rel =>
       have k:=K.out
       have k2:=HAt.out
       have k3:=C7.out.ip.2.2.2.1
       refine ⟨m,_,_,_,_,rfl,C7,⟨by have:=H.out.1;omega,by omega,?_⟩⟩
       rw [hR2.out,G.out,HN.out]
       rfl
      case measure =>
       have k2:=HAt.out
       have k3:=mI_eq C7.out.ip
       have k4:=C7.out.ip.2.2.2.1
       omega
    ·have e4:decide (bn=4)=false:=decide_eq_false h4
     rw [e4] at RF
     simp only [h4,if_false] at *
     go_wp2_with (go_at_call 128;refine (RF _).mono ?_;rintro e w5 ⟨rfl,hb⟩;have v1:=cellB z1 hb;have v2:=cellB z2 hb;have v3:=cellB z3 hb;rw [← hW4] at hb;have C5:Hid _:=(C4.out.bel hb).1;clear hb)
     have hol:ob<w5.heap.size:=World.block_lt_of_cell? _ _ v1
     have HV:Hid (∀W,Below w5.heap.size w5 W→W.cell? ⟨ob,1,none⟩=some (.int .i64 kd)∧W.cell? ⟨ob,2,none⟩=some (.int .i64 nn)):=fun W hW=>⟨cellB v1 hW,cellB v2 hW⟩
     clear C4 hW4 z0 z1 z2 z3 v3 RF hob
     rcases Int.lt_or_le (pz E.zs E.T m 0 (bn+1) [] (ps.step q)).2.2.bad 0 with hbd|hbd
     rotate_left
     ·have HB:Hid (0≤(pz E.zs E.T m 0 (bn+1) [] (ps.step q)).2.2.bad):=hbd
      clear hbd HV hol
      go_region_dies
      all_goals
       refine (HD.out _ (C5.out.ip.keep (by repeat (first|exact Below.refl _ _|refine Below.drew ?_|refine tk.bel_drewN ?_ _)))).mono ?_
       rintro e w6 ⟨hF,⟨hb,_⟩|⟨hb,rfl⟩⟩
       ·exact absurd hb (Int.not_lt.2 HB.out)
       ·exact ⟨rfl,dead ((C5.out.bel (by repeat (first|exact Below.refl _ _|refine Below.drew ?_|refine tk.bel_drewN ?_ _))).1.fq.trans hF) HB.out (by rw [hR2.out,pz_off _ _ _ _ _ HB.out])⟩
     have HB:Hid ((pz E.zs E.T m 0 (bn+1) [] (ps.step q)).2.2.bad<0):=hbd
     clear hbd v1 v2
     go_region_held3 (fun W=>W.cell? ⟨ob,1,none⟩=some (.int .i64 kd)∧W.cell? ⟨ob,2,none⟩=some (.int .i64 nn)) (first|exact HS7.out _ (by repeat (first|exact Below.refl _ _|refine Below.drew ?_|refine tk.bel_drewN ?_ _|refine Below.alloc ?_ (Nat.le_refl _) _))|exact HS.out _ (by repeat (first|exact Below.refl _ _|refine Below.drew ?_|refine tk.bel_drewN ?_ _|refine Below.alloc ?_ (Nat.le_refl _) _))|exact HV.out _ (by repeat (first|exact Below.refl _ _|refine Below.drew ?_|refine tk.bel_drewN ?_ _))) ((first
      |(go_at_call 120;refine (HD.out _ (C5.out.ip.keep (by repeat (first|exact Below.refl _ _|refine Below.drew ?_|refine tk.bel_drewN ?_ _)))).mono ?_;rintro e w6 ⟨hF,⟨hb,u,rfl,l2,h1,h2,h3⟩|⟨hb,rfl⟩⟩;rotate_left;exact absurd HB.out (Int.not_lt.2 hb);obtain ⟨T2,g2,rfl⟩:=h2.isI;have HS:Hid (∀W,Below w6.heap.size w6 W→W.cell? ⟨ob,1,none⟩=some (.int .i64 kd)∧W.cell? ⟨ob,2,none⟩=some (.int .i64 nn)):=fun W hW=>⟨cellB (fq_cell hF hne (HV.out _ (by repeat (first|exact Below.refl _ _|refine Below.drew ?_|refine tk.bel_drewN ?_ _))).1) hW,cellB (fq_cell hF hne (HV.out _ (by repeat (first|exact Below.refl _ _|refine Below.drew ?_|refine tk.bel_drewN ?_ _))).2) hW⟩;have C6:Hid (Cz E w g nil [] nil 0 [.iface T1 (.pointer (some ⟨g1,0,none⟩)),.iface T2 (.pointer (some ⟨g2,0,none⟩))] [l,l2] w6 _):=((C5.out.bel (by repeat (first|exact Below.refl _ _|refine Below.drew ?_|refine tk.bel_drewN ?_ _))).1.push hF h3 h2);have G:Hid _:=h1;clear hF hb h1 h2 h3)
      |(go_at_call 84;refine (C6.out.lit (kd:=kd) (nn:=nn) rfl (by simp) ⟨kd0,kd26⟩ ⟨by omega,by omega⟩ (by decide)).mono ?_;rintro e w7 ⟨T3,g3,rfl,hC,hF⟩;have C7:Hid _:=hC;have HS7:Hid (∀W,Below w7.heap.size w7 W→W.cell? ⟨ob,1,none⟩=some (.int .i64 kd)∧W.cell? ⟨ob,2,none⟩=some (.int .i64 nn)):=fun W hW=>⟨cellB (fq_cell hF hne (HS.out _ (Below.refl _ _)).1) hW,cellB (fq_cell hF hne (HS.out _ (Below.refl _ _)).2) hW⟩;clear hC hF)))
     all_goals
      go_wp2_with fail
      go_roundw
      case rel =>
       have k:=K.out
       have k2:=HAt.out
       have k3:=C7.out.ip.2.2.2.1
       refine ⟨m,_,_,_,_,rfl,C7,⟨by have:=H.out.1;omega,by omega,?_⟩⟩
       rw [hR2.out,G.out,HN.out]
       rfl
      case measure =>
       have k2:=HAt.out
       have k3:=mI_eq C7.out.ip
       have k4:=C7.out.ip.2.2.2.1
       omega
end ip
end Go.Proofs.YtkmiagkehcflnaaGreatDoor
