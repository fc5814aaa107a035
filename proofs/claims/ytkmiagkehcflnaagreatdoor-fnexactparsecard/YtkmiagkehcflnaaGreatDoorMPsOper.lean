import Derived.Test.YtkmiagkehcflnaaGreatDoorMPtOps
import Derived.Test.YtkmiagkehcflnaaGreatDoorMPsFunc
set_option maxRecDepth 100000
set_option maxHeartbeats 8000000
namespace Go.Proofs.YtkmiagkehcflnaaGreatDoor
namespace ps
open Go.RowKit bts nod lex tk
def ndV (n:Nd):Value:=.agg #[.int .i64 n.kind,.int .i64 n.n,.slice none 0 0,.slice none 0 0,.int .i64 n.count]
theorem bel_step {A W w':World} (h:Below A.heap.size A W) (hb:Below W.heap.size W w'):Below A.heap.size A w':=h.trans (hb.mono h.size)
theorem bel_set {B b j:Nat} {w W:World} {u:Value} (h:Below B w W) (hb:B≤b):Below B w (W.setCell ⟨b,j,none⟩ u):=h.setCell (p:=⟨b,j,none⟩) hb _
theorem l3operator_any {E:En} (ok:E.ok) {w:World} {g:Nat} {s:Ps} (hP:E.pp w g s) :
  Calls Tryz.prog 92 #[.pointer (some ⟨g,0,none⟩)] w fun e w'=>e=.returned (.tuple #[ndV (oper E.zs E.T s).1,.int .i64 (oper E.zs E.T s).2])∧Below w.heap.size w w':=by
 have IS:Hid (∀W t,Below w.heap.size w W→Calls Tryz.prog 55 #[.pointer (some ⟨g,0,none⟩),.string t] W fun e w'=>e=.returned (.bool (isP E.zs E.T s t))∧Below W.heap.size W w'):=fun W t hW=>l3is_any ok (Pp.keep hP hW) t
 have B0:Hid (Below w.heap.size w (w.alloc (.cells #[.int .i64 0,.int .i64 0,.slice none 0 0,.slice none 0 0,.int .i64 0] 61))):=bel_alloc _ _
 have L0:Hid (tk.Lone 61 5 (w.alloc (.cells #[.int .i64 0,.int .i64 0,.slice none 0 0,.slice none 0 0,.int .i64 0] 61)) w.heap.size [.int .i64 0,.int .i64 0,.slice none 0 0,.slice none 0 0,.int .i64 0]):=tk.Lone.of (heap_alloc_new _ _) rfl
 obtain ⟨X,hX⟩:∃X,oper E.zs E.T s=X:=⟨_,rfl⟩
 rw [hX]
 unfold oper at hX
 by_cases h1:isP E.zs E.T s {data:=#[111,114]}=true
 ·rw [if_pos h1] at hX
  subst hX
  have I1:Hid _:=IS.out _ {data:=#[111,114]} B0.out
  rw [h1] at I1
  clear hP IS h1
  go_enter Tryz.func92,Tryz.ntmps92
  go_wp2_with (go_at_call 55;refine Calls.mono I1.out ?_;rintro e w1 ⟨rfl,hb⟩;have B1:Hid (Below w.heap.size w w1):=B0.out.trans (hb.mono B0.out.size);have L1:Hid (tk.Lone 61 5 w1 w.heap.size [.int .i64 0,.int .i64 0,.slice none 0 0,.slice none 0 0,.int .i64 0]):=tk.Lone.below L0.out hb (by simp);have d0:w1.cell? ⟨w.heap.size,0,none⟩=some (.int .i64 0):=tk.Lone.at (L1.out) (j:=0) (by omega);have df0:w1.frozen? ⟨w.heap.size,0,none⟩=false:=tk.Lone.free (L1.out) 0;have d1:w1.cell? ⟨w.heap.size,1,none⟩=some (.int .i64 0):=tk.Lone.at (L1.out) (j:=1) (by omega);have df1:w1.frozen? ⟨w.heap.size,1,none⟩=false:=tk.Lone.free (L1.out) 1;have d2:w1.cell? ⟨w.heap.size,2,none⟩=some (.slice none 0 0):=tk.Lone.at (L1.out) (j:=2) (by omega);have df2:w1.frozen? ⟨w.heap.size,2,none⟩=false:=tk.Lone.free (L1.out) 2;have d3:w1.cell? ⟨w.heap.size,3,none⟩=some (.slice none 0 0):=tk.Lone.at (L1.out) (j:=3) (by omega);have df3:w1.frozen? ⟨w.heap.size,3,none⟩=false:=tk.Lone.free (L1.out) 3;have d4:w1.cell? ⟨w.heap.size,4,none⟩=some (.int .i64 0):=tk.Lone.at (L1.out) (j:=4) (by omega);have df4:w1.frozen? ⟨w.heap.size,4,none⟩=false:=tk.Lone.free (L1.out) 4;clear hb)
  obtain ⟨W5,hW5⟩:∃W5,W5=(((((w1.setCell ⟨w.heap.size,0,none⟩ (.int .i64 23)).setCell ⟨w.heap.size,1,none⟩ (.int .i64 0)).setCell ⟨w.heap.size,2,none⟩ (.slice none 0 0)).setCell ⟨w.heap.size,3,none⟩ (.slice none 0 0)).setCell ⟨w.heap.size,4,none⟩ (.int .i64 0)):=⟨_,rfl⟩
  have L5:tk.Lone 61 5 W5 w.heap.size [.int .i64 23,.int .i64 0,.slice none 0 0,.slice none 0 0,.int .i64 0]:=by rw [hW5];exact ((((tk.Lone.set (L1.out) 0 _).set 1 _).set 2 _).set 3 _).set 4 _
  have B5:Hid (Below w.heap.size w W5):=by rw [hW5];exact bel_set (bel_set (bel_set (bel_set (bel_set B1.out (Nat.le_refl _)) (Nat.le_refl _)) (Nat.le_refl _)) (Nat.le_refl _)) (Nat.le_refl _)
  rw [← hW5]
  clear hW5 d0 df0 d1 df1 d2 df2 d3 df3 d4 df4
  have y0:W5.cell? ⟨w.heap.size,0,none⟩=some (.int .i64 23):=tk.Lone.at (L5) (j:=0) (by omega)
  have yf0:W5.frozen? ⟨w.heap.size,0,none⟩=false:=tk.Lone.free (L5) 0
  have y1:W5.cell? ⟨w.heap.size,1,none⟩=some (.int .i64 0):=tk.Lone.at (L5) (j:=1) (by omega)
  have yf1:W5.frozen? ⟨w.heap.size,1,none⟩=false:=tk.Lone.free (L5) 1
  have y2:W5.cell? ⟨w.heap.size,2,none⟩=some (.slice none 0 0):=tk.Lone.at (L5) (j:=2) (by omega)
  have yf2:W5.frozen? ⟨w.heap.size,2,none⟩=false:=tk.Lone.free (L5) 2
  have y3:W5.cell? ⟨w.heap.size,3,none⟩=some (.slice none 0 0):=tk.Lone.at (L5) (j:=3) (by omega)
  have yf3:W5.frozen? ⟨w.heap.size,3,none⟩=false:=tk.Lone.free (L5) 3
  have y4:W5.cell? ⟨w.heap.size,4,none⟩=some (.int .i64 0):=tk.Lone.at (L5) (j:=4) (by omega)
  have yf4:W5.frozen? ⟨w.heap.size,4,none⟩=false:=tk.Lone.free (L5) 4
  try simp only [Exit.inBlock,Exit.then]
  refine bodyPost_ret (by simp [results,Tryz.results92,go_sem,y0,y1,y2,y3,y4];try rfl) rfl ?_
  exact ⟨rfl,B5.out⟩
 ·rw [if_neg h1] at hX
  have h1:=bool_no h1
  have I1:Hid _:=IS.out _ {data:=#[111,114]} B0.out
  rw [h1] at I1
  by_cases h2:isP E.zs E.T s {data:=#[97,110,100]}=true
  ·rw [if_pos h2] at hX
   subst hX
   clear hP
   go_enter Tryz.func92,Tryz.ntmps92
   go_wp2_with (first
    |(go_at_call 55;refine Calls.mono I2.out ?_;rintro e w2 ⟨rfl,hb⟩;have B2:Hid (Below w.heap.size w w2):=B1.out.trans (hb.mono B1.out.size);have L2:Hid (tk.Lone 61 5 w2 w.heap.size [.int .i64 0,.int .i64 0,.slice none 0 0,.slice none 0 0,.int .i64 0]):=tk.Lone.below L1.out hb (heap_lt (tk.Lone.back L1.out));have d0:w2.cell? ⟨w.heap.size,0,none⟩=some (.int .i64 0):=tk.Lone.at (L2.out) (j:=0) (by omega);have df0:w2.frozen? ⟨w.heap.size,0,none⟩=false:=tk.Lone.free (L2.out) 0;have d1:w2.cell? ⟨w.heap.size,1,none⟩=some (.int .i64 0):=tk.Lone.at (L2.out) (j:=1) (by omega);have df1:w2.frozen? ⟨w.heap.size,1,none⟩=false:=tk.Lone.free (L2.out) 1;have d2:w2.cell? ⟨w.heap.size,2,none⟩=some (.slice none 0 0):=tk.Lone.at (L2.out) (j:=2) (by omega);have df2:w2.frozen? ⟨w.heap.size,2,none⟩=false:=tk.Lone.free (L2.out) 2;have d3:w2.cell? ⟨w.heap.size,3,none⟩=some (.slice none 0 0):=tk.Lone.at (L2.out) (j:=3) (by omega);have df3:w2.frozen? ⟨w.heap.size,3,none⟩=false:=tk.Lone.free (L2.out) 3;have d4:w2.cell? ⟨w.heap.size,4,none⟩=some (.int .i64 0):=tk.Lone.at (L2.out) (j:=4) (by omega);have df4:w2.frozen? ⟨w.heap.size,4,none⟩=false:=tk.Lone.free (L2.out) 4;clear hb)
    |(go_at_call 55;refine Calls.mono I1.out ?_;rintro e w1 ⟨rfl,hb⟩;have B1:Hid (Below w.heap.size w w1):=B0.out.trans (hb.mono B0.out.size);have L1:Hid (tk.Lone 61 5 w1 w.heap.size [.int .i64 0,.int .i64 0,.slice none 0 0,.slice none 0 0,.int .i64 0]):=tk.Lone.below L0.out hb (by simp);have h9:Hid (w.heap.size<w1.heap.size):=(by have:=hb.size;simp at this;show _<_;omega);have I2:Hid _:=IS.out w1 {data:=#[97,110,100]} B1.out;rw [h2] at I2;clear hb))
   obtain ⟨W5,hW5⟩:∃W5,W5=(((((w2.setCell ⟨w.heap.size,0,none⟩ (.int .i64 22)).setCell ⟨w.heap.size,1,none⟩ (.int .i64 0)).setCell ⟨w.heap.size,2,none⟩ (.slice none 0 0)).setCell ⟨w.heap.size,3,none⟩ (.slice none 0 0)).setCell ⟨w.heap.size,4,none⟩ (.int .i64 0)):=⟨_,rfl⟩
   have L5:tk.Lone 61 5 W5 w.heap.size [.int .i64 22,.int .i64 0,.slice none 0 0,.slice none 0 0,.int .i64 0]:=by rw [hW5];exact ((((tk.Lone.set (L2.out) 0 _).set 1 _).set 2 _).set 3 _).set 4 _
   have B5:Hid (Below w.heap.size w W5):=by rw [hW5];exact bel_set (bel_set (bel_set (bel_set (bel_set B2.out (Nat.le_refl _)) (Nat.le_refl _)) (Nat.le_refl _)) (Nat.le_refl _)) (Nat.le_refl _)
   rw [← hW5]
   clear hW5 d0 df0 d1 df1 d2 df2 d3 df3 d4 df4
   have y0:W5.cell? ⟨w.heap.size,0,none⟩=some (.int .i64 22):=tk.Lone.at (L5) (j:=0) (by omega)
   have yf0:W5.frozen? ⟨w.heap.size,0,none⟩=false:=tk.Lone.free (L5) 0
   have y1:W5.cell? ⟨w.heap.size,1,none⟩=some (.int .i64 0):=tk.Lone.at (L5) (j:=1) (by omega)
   have yf1:W5.frozen? ⟨w.heap.size,1,none⟩=false:=tk.Lone.free (L5) 1
   have y2:W5.cell? ⟨w.heap.size,2,none⟩=some (.slice none 0 0):=tk.Lone.at (L5) (j:=2) (by omega)
   have yf2:W5.frozen? ⟨w.heap.size,2,none⟩=false:=tk.Lone.free (L5) 2
   have y3:W5.cell? ⟨w.heap.size,3,none⟩=some (.slice none 0 0):=tk.Lone.at (L5) (j:=3) (by omega)
   have yf3:W5.frozen? ⟨w.heap.size,3,none⟩=false:=tk.Lone.free (L5) 3
   have y4:W5.cell? ⟨w.heap.size,4,none⟩=some (.int .i64 0):=tk.Lone.at (L5) (j:=4) (by omega)
   have yf4:W5.frozen? ⟨w.heap.size,4,none⟩=false:=tk.Lone.free (L5) 4
   try simp only [Exit.inBlock,Exit.then]
   refine bodyPost_ret (by simp [results,Tryz.results92,go_sem,y0,y1,y2,y3,y4];try rfl) rfl ?_
   exact ⟨rfl,B5.out⟩
  ·rw [if_neg h2] at hX
   have h2:=bool_no h2
   have HX:Hid (opFrom E.zs E.T s 12 0=X):=hX
   clear hP hX
   go_enter Tryz.func92,Tryz.ntmps92
   go_wp2_with (first
    |(go_at_call 55;refine Calls.mono I2.out ?_;rintro e w2 ⟨rfl,hb⟩;have B2:Hid (Below w.heap.size w w2):=B1.out.trans (hb.mono B1.out.size);have L2:Hid (tk.Lone 61 5 w2 w.heap.size [.int .i64 0,.int .i64 0,.slice none 0 0,.slice none 0 0,.int .i64 0]):=tk.Lone.below L1.out hb (heap_lt (tk.Lone.back L1.out));clear hb)
    |(go_at_call 55;refine Calls.mono I1.out ?_;rintro e w1 ⟨rfl,hb⟩;have B1:Hid (Below w.heap.size w w1):=B0.out.trans (hb.mono B0.out.size);have L1:Hid (tk.Lone 61 5 w1 w.heap.size [.int .i64 0,.int .i64 0,.slice none 0 0,.slice none 0 0,.int .i64 0]):=tk.Lone.below L0.out hb (by simp);have h9:Hid (w.heap.size<w1.heap.size):=(by have:=hb.size;simp at this;show _<_;omega);have I2:Hid _:=IS.out w1 {data:=#[97,110,100]} B1.out;rw [h2] at I2;clear hb))
   go_loopw [4] (fun i wr=>∃(k:Nat),k≤12∧i=.int .i64 (k:Int)∧Hid (opFrom E.zs E.T s (12-k) k=X)∧Hid (Below w.heap.size w wr)∧Hid (tk.Lone 61 5 wr w.heap.size [.int .i64 0,.int .i64 0,.slice none 0 0,.slice none 0 0,.int .i64 0])) (fun i _=>12-(intOf i).toNat)
   case atStart=>exact ⟨0,by omega,rfl,HX,B2,L2⟩
   case round =>
    obtain ⟨k,hk,rfl,HK,HB,HL⟩:=hrel
    clear h1 h2 I1 HX
    by_cases hlt:k<12
    ·have i1:(k:Int)<12:=by omega
     have hK:=HK.out
     rw [show 12-k=(12-(k+1))+1 by omega] at hK
     unfold opFrom at hK
     have B4:Hid (Below w.heap.size w (wr.alloc (.cells #[.int .i64 21,.int .i64 (k:Int),.slice none 0 0,.slice none 0 0,.int .i64 0] 61))):=HB.out.alloc HB.out.size _
     have N4:Hid (tk.Lone 61 5 (wr.alloc (.cells #[.int .i64 21,.int .i64 (k:Int),.slice none 0 0,.slice none 0 0,.int .i64 0] 61)) wr.heap.size [.int .i64 21,.int .i64 (k:Int),.slice none 0 0,.slice none 0 0,.int .i64 0]):=tk.Lone.of (heap_alloc_new _ _) rfl
     have L4:Hid (tk.Lone 61 5 (wr.alloc (.cells #[.int .i64 21,.int .i64 (k:Int),.slice none 0 0,.slice none 0 0,.int .i64 0] 61)) w.heap.size [.int .i64 0,.int .i64 0,.slice none 0 0,.slice none 0 0,.int .i64 0]):=tk.Lone.below HL.out (bel_alloc _ _) (heap_lt (tk.Lone.back HL.out))
     have h8:Hid (w.heap.size<wr.heap.size):=heap_lt (tk.Lone.back HL.out)
     have OT:Hid _:=vt.l3opText_any 21 (k:Int) 0 (.slice none 0 0) (.slice none 0 0) (wr.alloc (.cells #[.int .i64 21,.int .i64 (k:Int),.slice none 0 0,.slice none 0 0,.int .i64 0] 61)) (.inl rfl) (fun _=>by omega)
     have BD:Hid (∀W,Calls Tryz.prog 113 #[.agg #[.int .i64 21,.int .i64 (k:Int),.slice none 0 0,.slice none 0 0,.int .i64 0]] W fun x w'=>x=.returned (.int .i64 (vt.bindK 21 (k:Int)))∧Below W.heap.size W w'):=fun W=>vt.l3bind_any 21 (k:Int) 0 (.slice none 0 0) (.slice none 0 0) W (fun _=>by omega)
     generalize vt.opT 21 (k:Int)=tx at OT hK
     generalize vt.bindK 21 (k:Int)=bk at BD hK
     cases hi:isP E.zs E.T s tx
     ·rw [hi,if_neg (by decide)] at hK
      have HE:Hid (opFrom E.zs E.T s (12-(k+1)) (k+1)=X):=hK
      clear hK
      go_wp2_with (first
       |(go_at_call 55;refine Calls.mono (IS.out _ _ B5.out) ?_;rw [hi];rintro e w6 ⟨rfl,hb⟩;have B6:Hid (Below w.heap.size w w6):=B5.out.trans (hb.mono B5.out.size);have L6:Hid (tk.Lone 61 5 w6 w.heap.size [.int .i64 0,.int .i64 0,.slice none 0 0,.slice none 0 0,.int .i64 0]):=tk.Lone.below L5.out hb (heap_lt (tk.Lone.back L5.out));clear hb)
       |(go_at_call 112;refine Calls.mono OT.out ?_;rintro e w5 ⟨rfl,hb⟩;have B5:Hid (Below w.heap.size w w5):=B4.out.trans (hb.mono B4.out.size);have L5:Hid (tk.Lone 61 5 w5 w.heap.size [.int .i64 0,.int .i64 0,.slice none 0 0,.slice none 0 0,.int .i64 0]):=tk.Lone.below L4.out hb (heap_lt (tk.Lone.back L4.out));clear hb))
      go_roundw
      case rel=>exact ⟨k+1,by omega,by go_num,HE,B6,L6⟩
      case measure=>simp [intOf];omega
     ·rw [hi,if_pos rfl] at hK
      subst hK
      have NN:Hid (∀W,Below (wr.alloc (.cells #[.int .i64 21,.int .i64 (k:Int),.slice none 0 0,.slice none 0 0,.int .i64 0] 61)).heap.size (wr.alloc (.cells #[.int .i64 21,.int .i64 (k:Int),.slice none 0 0,.slice none 0 0,.int .i64 0] 61)) W→tk.Lone 61 5 W wr.heap.size [.int .i64 21,.int .i64 (k:Int),.slice none 0 0,.slice none 0 0,.int .i64 0]∧tk.Lone 61 5 W w.heap.size [.int .i64 0,.int .i64 0,.slice none 0 0,.slice none 0 0,.int .i64 0]):=fun W hW=>⟨tk.Lone.below N4.out hW (by simp),tk.Lone.below L4.out hW (by have:=h8.out;simp;omega)⟩
      go_wp2_with (first
       |(go_at_call 55;refine Calls.mono (IS.out _ _ B5.out) ?_;rw [hi];rintro e w6 ⟨rfl,hb⟩;have B6:Hid (Below w.heap.size w w6):=B5.out.trans (hb.mono B5.out.size);have Z6:Hid _:=Z5.out.trans (hb.mono Z5.out.size);clear hb)
       |(go_at_call 112;refine Calls.mono OT.out ?_;rintro e w5 ⟨rfl,hb⟩;have B5:Hid (Below w.heap.size w w5):=B4.out.trans (hb.mono B4.out.size);have Z5:Hid _:=hb;clear hb))
      have L6:=(NN.out _ Z6.out).2
      have N6:=(NN.out _ Z6.out).1
      have n0:w6.cell? ⟨wr.heap.size,0,none⟩=some (.int .i64 21):=tk.Lone.at (N6) (j:=0) (by omega)
      have nf0:w6.frozen? ⟨wr.heap.size,0,none⟩=false:=tk.Lone.free (N6) 0
      have n1:w6.cell? ⟨wr.heap.size,1,none⟩=some (.int .i64 (k:Int)):=tk.Lone.at (N6) (j:=1) (by omega)
      have nf1:w6.frozen? ⟨wr.heap.size,1,none⟩=false:=tk.Lone.free (N6) 1
      have n2:w6.cell? ⟨wr.heap.size,2,none⟩=some (.slice none 0 0):=tk.Lone.at (N6) (j:=2) (by omega)
      have nf2:w6.frozen? ⟨wr.heap.size,2,none⟩=false:=tk.Lone.free (N6) 2
      have n3:w6.cell? ⟨wr.heap.size,3,none⟩=some (.slice none 0 0):=tk.Lone.at (N6) (j:=3) (by omega)
      have nf3:w6.frozen? ⟨wr.heap.size,3,none⟩=false:=tk.Lone.free (N6) 3
      have n4:w6.cell? ⟨wr.heap.size,4,none⟩=some (.int .i64 0):=tk.Lone.at (N6) (j:=4) (by omega)
      have nf4:w6.frozen? ⟨wr.heap.size,4,none⟩=false:=tk.Lone.free (N6) 4
      have d0:w6.cell? ⟨w.heap.size,0,none⟩=some (.int .i64 0):=tk.Lone.at (L6) (j:=0) (by omega)
      have df0:w6.frozen? ⟨w.heap.size,0,none⟩=false:=tk.Lone.free (L6) 0
      have d1:w6.cell? ⟨w.heap.size,1,none⟩=some (.int .i64 0):=tk.Lone.at (L6) (j:=1) (by omega)
      have df1:w6.frozen? ⟨w.heap.size,1,none⟩=false:=tk.Lone.free (L6) 1
      have d2:w6.cell? ⟨w.heap.size,2,none⟩=some (.slice none 0 0):=tk.Lone.at (L6) (j:=2) (by omega)
      have df2:w6.frozen? ⟨w.heap.size,2,none⟩=false:=tk.Lone.free (L6) 2
      have d3:w6.cell? ⟨w.heap.size,3,none⟩=some (.slice none 0 0):=tk.Lone.at (L6) (j:=3) (by omega)
      have df3:w6.frozen? ⟨w.heap.size,3,none⟩=false:=tk.Lone.free (L6) 3
      have d4:w6.cell? ⟨w.heap.size,4,none⟩=some (.int .i64 0):=tk.Lone.at (L6) (j:=4) (by omega)
      have df4:w6.frozen? ⟨w.heap.size,4,none⟩=false:=tk.Lone.free (L6) 4
      go_region_with (go_at_call 113;refine Calls.mono (BD.out _) ?_;rintro e w7 ⟨rfl,hb⟩;have Z7:Hid _:=bel_step (A:=wr.alloc (.cells #[.int .i64 21,.int .i64 (k:Int),.slice none 0 0,.slice none 0 0,.int .i64 0] 61)) (by repeat (first|exact Z6.out|refine Below.drew ?_|refine tk.bel_drewN ?_ _)) hb;have B7:Hid (Below w.heap.size w w7):=bel_step (by repeat (first|exact B6.out|refine Below.drew ?_|refine tk.bel_drewN ?_ _)) hb;have L7:=(NN.out _ Z7.out).2;have N7:=(NN.out _ Z7.out).1;have m0:w7.cell? ⟨wr.heap.size,0,none⟩=some (.int .i64 21):=tk.Lone.at (N7) (j:=0) (by omega);have mf0:w7.frozen? ⟨wr.heap.size,0,none⟩=false:=tk.Lone.free (N7) 0;have m1:w7.cell? ⟨wr.heap.size,1,none⟩=some (.int .i64 (k:Int)):=tk.Lone.at (N7) (j:=1) (by omega);have mf1:w7.frozen? ⟨wr.heap.size,1,none⟩=false:=tk.Lone.free (N7) 1;have m2:w7.cell? ⟨wr.heap.size,2,none⟩=some (.slice none 0 0):=tk.Lone.at (N7) (j:=2) (by omega);have mf2:w7.frozen? ⟨wr.heap.size,2,none⟩=false:=tk.Lone.free (N7) 2;have m3:w7.cell? ⟨wr.heap.size,3,none⟩=some (.slice none 0 0):=tk.Lone.at (N7) (j:=3) (by omega);have mf3:w7.frozen? ⟨wr.heap.size,3,none⟩=false:=tk.Lone.free (N7) 3;have m4:w7.cell? ⟨wr.heap.size,4,none⟩=some (.int .i64 0):=tk.Lone.at (N7) (j:=4) (by omega);have mf4:w7.frozen? ⟨wr.heap.size,4,none⟩=false:=tk.Lone.free (N7) 4;have c0:w7.cell? ⟨w.heap.size,0,none⟩=some (.int .i64 0):=tk.Lone.at (L7) (j:=0) (by omega);have cf0:w7.frozen? ⟨w.heap.size,0,none⟩=false:=tk.Lone.free (L7) 0;have c1:w7.cell? ⟨w.heap.size,1,none⟩=some (.int .i64 0):=tk.Lone.at (L7) (j:=1) (by omega);have cf1:w7.frozen? ⟨w.heap.size,1,none⟩=false:=tk.Lone.free (L7) 1;have c2:w7.cell? ⟨w.heap.size,2,none⟩=some (.slice none 0 0):=tk.Lone.at (L7) (j:=2) (by omega);have cf2:w7.frozen? ⟨w.heap.size,2,none⟩=false:=tk.Lone.free (L7) 2;have c3:w7.cell? ⟨w.heap.size,3,none⟩=some (.slice none 0 0):=tk.Lone.at (L7) (j:=3) (by omega);have cf3:w7.frozen? ⟨w.heap.size,3,none⟩=false:=tk.Lone.free (L7) 3;have c4:w7.cell? ⟨w.heap.size,4,none⟩=some (.int .i64 0):=tk.Lone.at (L7) (j:=4) (by omega);have cf4:w7.frozen? ⟨w.heap.size,4,none⟩=false:=tk.Lone.free (L7) 4;clear hb)
      all_goals
       obtain ⟨W5,hW5⟩:∃W5,W5=(((((w7.setCell ⟨w.heap.size,0,none⟩ (.int .i64 21)).setCell ⟨w.heap.size,1,none⟩ (.int .i64 (k:Int))).setCell ⟨w.heap.size,2,none⟩ (.slice none 0 0)).setCell ⟨w.heap.size,3,none⟩ (.slice none 0 0)).setCell ⟨w.heap.size,4,none⟩ (.int .i64 0)):=⟨_,rfl⟩
       have L5:tk.Lone 61 5 W5 w.heap.size [.int .i64 21,.int .i64 (k:Int),.slice none 0 0,.slice none 0 0,.int .i64 0]:=by rw [hW5];exact ((((tk.Lone.set (L7) 0 _).set 1 _).set 2 _).set 3 _).set 4 _
       have B5:Hid (Below w.heap.size w W5):=by rw [hW5];exact bel_set (bel_set (bel_set (bel_set (bel_set B7.out (Nat.le_refl _)) (Nat.le_refl _)) (Nat.le_refl _)) (Nat.le_refl _)) (Nat.le_refl _)
       rw [← hW5]
       clear hW5 L6 N6 N7 n0 nf0 n1 nf1 n2 nf2 n3 nf3 n4 nf4 m0 mf0 m1 mf1 m2 mf2 m3 mf3 m4 mf4 c0 cf0 c1 cf1 c2 cf2 c3 cf3 c4 cf4 d0 df0 d1 df1 d2 df2 d3 df3 d4 df4
       have y0:W5.cell? ⟨w.heap.size,0,none⟩=some (.int .i64 21):=tk.Lone.at (L5) (j:=0) (by omega)
       have yf0:W5.frozen? ⟨w.heap.size,0,none⟩=false:=tk.Lone.free (L5) 0
       have y1:W5.cell? ⟨w.heap.size,1,none⟩=some (.int .i64 (k:Int)):=tk.Lone.at (L5) (j:=1) (by omega)
       have yf1:W5.frozen? ⟨w.heap.size,1,none⟩=false:=tk.Lone.free (L5) 1
       have y2:W5.cell? ⟨w.heap.size,2,none⟩=some (.slice none 0 0):=tk.Lone.at (L5) (j:=2) (by omega)
       have yf2:W5.frozen? ⟨w.heap.size,2,none⟩=false:=tk.Lone.free (L5) 2
       have y3:W5.cell? ⟨w.heap.size,3,none⟩=some (.slice none 0 0):=tk.Lone.at (L5) (j:=3) (by omega)
       have yf3:W5.frozen? ⟨w.heap.size,3,none⟩=false:=tk.Lone.free (L5) 3
       have y4:W5.cell? ⟨w.heap.size,4,none⟩=some (.int .i64 0):=tk.Lone.at (L5) (j:=4) (by omega)
       have yf4:W5.frozen? ⟨w.heap.size,4,none⟩=false:=tk.Lone.free (L5) 4
       go_wp2
       try simp only [Exit.inBlock,Exit.then]
       refine bodyPost_ret (by simp [results,Tryz.results92,go_sem,y0,y1,y2,y3,y4];try rfl) rfl ?_
       exact ⟨rfl,B5.out⟩
    ·obtain rfl:k=12:=by omega
     have hK:=HK.out
     unfold opFrom at hK
     subst hK
     have L9:=HL.out
     have d0:wr.cell? ⟨w.heap.size,0,none⟩=some (.int .i64 0):=tk.Lone.at (L9) (j:=0) (by omega)
     have df0:wr.frozen? ⟨w.heap.size,0,none⟩=false:=tk.Lone.free (L9) 0
     have d1:wr.cell? ⟨w.heap.size,1,none⟩=some (.int .i64 0):=tk.Lone.at (L9) (j:=1) (by omega)
     have df1:wr.frozen? ⟨w.heap.size,1,none⟩=false:=tk.Lone.free (L9) 1
     have d2:wr.cell? ⟨w.heap.size,2,none⟩=some (.slice none 0 0):=tk.Lone.at (L9) (j:=2) (by omega)
     have df2:wr.frozen? ⟨w.heap.size,2,none⟩=false:=tk.Lone.free (L9) 2
     have d3:wr.cell? ⟨w.heap.size,3,none⟩=some (.slice none 0 0):=tk.Lone.at (L9) (j:=3) (by omega)
     have df3:wr.frozen? ⟨w.heap.size,3,none⟩=false:=tk.Lone.free (L9) 3
     have d4:wr.cell? ⟨w.heap.size,4,none⟩=some (.int .i64 0):=tk.Lone.at (L9) (j:=4) (by omega)
     have df4:wr.frozen? ⟨w.heap.size,4,none⟩=false:=tk.Lone.free (L9) 4
     go_wp2
     obtain ⟨W5,hW5⟩:∃W5,W5=(((((wr.setCell ⟨w.heap.size,0,none⟩ (.int .i64 0)).setCell ⟨w.heap.size,1,none⟩ (.int .i64 0)).setCell ⟨w.heap.size,2,none⟩ (.slice none 0 0)).setCell ⟨w.heap.size,3,none⟩ (.slice none 0 0)).setCell ⟨w.heap.size,4,none⟩ (.int .i64 0)):=⟨_,rfl⟩
     have L5:tk.Lone 61 5 W5 w.heap.size [.int .i64 0,.int .i64 0,.slice none 0 0,.slice none 0 0,.int .i64 0]:=by rw [hW5];exact ((((tk.Lone.set (L9) 0 _).set 1 _).set 2 _).set 3 _).set 4 _
     have B5:Hid (Below w.heap.size w W5):=by rw [hW5];exact bel_set (bel_set (bel_set (bel_set (bel_set HB.out (Nat.le_refl _)) (Nat.le_refl _)) (Nat.le_refl _)) (Nat.le_refl _)) (Nat.le_refl _)
     rw [← hW5]
     clear hW5 d0 df0 d1 df1 d2 df2 d3 df3 d4 df4
     have y0:W5.cell? ⟨w.heap.size,0,none⟩=some (.int .i64 0):=tk.Lone.at (L5) (j:=0) (by omega)
     have yf0:W5.frozen? ⟨w.heap.size,0,none⟩=false:=tk.Lone.free (L5) 0
     have y1:W5.cell? ⟨w.heap.size,1,none⟩=some (.int .i64 0):=tk.Lone.at (L5) (j:=1) (by omega)
     have yf1:W5.frozen? ⟨w.heap.size,1,none⟩=false:=tk.Lone.free (L5) 1
     have y2:W5.cell? ⟨w.heap.size,2,none⟩=some (.slice none 0 0):=tk.Lone.at (L5) (j:=2) (by omega)
     have yf2:W5.frozen? ⟨w.heap.size,2,none⟩=false:=tk.Lone.free (L5) 2
     have y3:W5.cell? ⟨w.heap.size,3,none⟩=some (.slice none 0 0):=tk.Lone.at (L5) (j:=3) (by omega)
     have yf3:W5.frozen? ⟨w.heap.size,3,none⟩=false:=tk.Lone.free (L5) 3
     have y4:W5.cell? ⟨w.heap.size,4,none⟩=some (.int .i64 0):=tk.Lone.at (L5) (j:=4) (by omega)
     have yf4:W5.frozen? ⟨w.heap.size,4,none⟩=false:=tk.Lone.free (L5) 4
     try simp only [Exit.inBlock,Exit.then]
     refine bodyPost_ret (by simp [results,Tryz.results92,go_sem,y0,y1,y2,y3,y4];try rfl) rfl ?_
     exact ⟨rfl,B5.out⟩
end ps
end Go.Proofs.YtkmiagkehcflnaaGreatDoor
