import Derived.Test.YtkmiagkehcflnaaGreatDoorMTrMeth
set_option maxRecDepth 100000
set_option maxHeartbeats 8000000
namespace Go.Proofs.YtkmiagkehcflnaaGreatDoor
namespace vt
open Go.RowKit bts nod lex
def Two (w:World) (g:Nat) (xs:List Value):Prop:=w.ownsRow 0 58 2 (.slice (some ⟨g,0,none⟩) 1 1) 1 xs
theorem Two.of {w:World} {g:Nat} {a b:Value} (h:w.heap[g]?=some (.cells #[a,b] 58 (0,0))):Two w g [a,b] :=
 ⟨rfl,.inr ⟨g,1,_,rfl,Nat.zero_le _,h,by omega,by unfold maxLen;omega,rfl,rfl⟩⟩
theorem Two.set {w:World} {g:Nat} {xs:List Value} (h:Two w g xs) (j:Nat) (u:Value):Two (w.setCell ⟨g,j,none⟩ u) g (xs.set j u):=(World.ownsRow.stored h j u).1
theorem Two.back {w:World} {g:Nat} {a b:Value} (h:Two w g [a,b]):w.heap[g]?=some (.cells #[a,b] 58 (0,0)):=by
 rcases h.2 with ⟨h,_⟩|⟨g',cap,cur,e',_,hh,_,_,hs,ht⟩
 ·simp at h
 ·simp only [Value.slice.injEq,Option.some.injEq,Addr.mk.injEq,and_true] at e'
  obtain ⟨rfl,_,rfl⟩:=e'
  have hc:cur=#[a,b]:=by
   apply Array.toList_inj.mp
   rw [List.take_of_length_le (by rw [Array.length_toList];omega)] at ht
   exact ht
  rw [hh,hc]
theorem under_any (deep:Nat) (lp:Bool) {D:Nat} {v:Value} {t:Tr D} {w:World} (h:Rep w v t) (_hd:deep≤1000000000) :
  Calls Tryz.prog 87 #[.agg #[.int .i64 deep,.bool lp],v] w fun e w'=>e=.returned (.agg #[.int .i64 ((deep+1:Nat):Int),.bool (innerT (kindT t) lp)])∧Below w.heap.size w w':=by
 obtain ⟨g,ao,cap,at_,an,ca,cn,rfl,hk0,hk1,N,_⟩:=h.open
 clear h
 unfold kindT
 generalize dT t=d at *
 have R:Hid (∀W,Below w.heap.size w W→_):=fun W (hW:Below w.heap.size w W)=>row_any g W _ _ _ _ _ _ _ _ _ (N.below hW).c0 (N.below hW).c1 (N.below hW).c2 (N.below hW).c3 (N.below hW).c4
 have M:=m_row hk0 hk1 g
 have F:=fun W=>fld0 d.kind d.n d.count (.slice at_ d.text.length ca) (.slice an d.names.length cn) W
 generalize ty d.kind=T at M
 generalize d.kind=kd at *
 generalize d.n=nn at *
 generalize d.count=ct at *
 generalize d.text.length=p at *
 generalize d.names.length=q at *
 clear N hk0 hk1
 obtain ⟨W2,hW2⟩:∃W2,W2=(w.alloc (.cells #[.int .i64 deep,.bool lp] 58)).alloc (.cells #[.int .i64 0,.bool false] 58):=⟨_,rfl⟩
 have z2:W2.heap.size=w.heap.size+1+1:=by rw [hW2];simp
 have b2:Hid (Below w.heap.size w W2):=by show Below _ _ _;rw [hW2];exact ((Below.refl _ _).alloc (Nat.le_refl _) _).alloc (by simp) _
 have k0:W2.heap[w.heap.size]?=some (.cells #[.int .i64 deep,.bool lp] 58 (0,0)):=by rw [hW2,heap_alloc_old _ _ (by simp)];exact heap_alloc_new _ _
 have k1:W2.heap[w.heap.size+1]?=some (.cells #[.int .i64 0,.bool false] 58 (0,0)):=by rw [hW2];have:=heap_alloc_new (w.alloc (.cells #[.int .i64 deep,.bool lp] 58)) (.cells #[.int .i64 0,.bool false] 58);simpa only [World.size_alloc] using this
 have C:=R.out W2 b2.out
 have KK:Hid (∀w1,Below W2.heap.size W2 w1→w1.heap[w.heap.size]?=some (.cells #[.int .i64 deep,.bool lp] 58 (0,0))∧w1.heap[w.heap.size+1]?=some (.cells #[.int .i64 0,.bool false] 58 (0,0))∧Below w.heap.size w w1) :=
  fun w1 h=>⟨(h.block _ (by omega)).trans k0,(h.block _ (by omega)).trans k1,b2.out.trans (h.mono b2.out.size)⟩
 clear R b2 k0 k1
 have go:∀(w1:World),w1.heap[w.heap.size]?=some (.cells #[.int .i64 deep,.bool lp] 58 (0,0))→w1.heap[w.heap.size+1]?=some (.cells #[.int .i64 0,.bool false] 58 (0,0)) →
   w1.cell? ⟨w.heap.size,0,none⟩=some (.int .i64 deep)∧w1.cell? ⟨w.heap.size+1,0,none⟩=some (.int .i64 0)∧w1.cell? ⟨w.heap.size+1,1,none⟩=some (.bool false)∧w1.frozen? ⟨w.heap.size+1,0,none⟩=false∧w1.frozen? ⟨w.heap.size+1,1,none⟩=false:=fun w1 h0 h1=>by simp [World.cell?,World.frozen?,h0,h1]
 by_cases hl:kd=4∨kd=5∨kd=7
 ·rw [show innerT kd lp=true by unfold innerT;rw [if_pos hl]]
  rcases hl with rfl|rfl|rfl
  all_goals
   go_enter Tryz.func87,Tryz.ntmps87
   go_wp2_with fail
   rw [← hW2]
   refine C.mono ?_
   rintro e w1 ⟨rfl,hw1⟩
   obtain ⟨j0,j1,jb⟩:=KK.out w1 hw1
   obtain ⟨i0,i1,i2,i3,i4⟩:=go w1 j0 j1
   have TW:Hid (Two w1 (w.heap.size+1) [.int .i64 0,.bool false]):=Two.of j1
   have JB:Hid (Below w.heap.size w w1):=jb
   clear hw1 C KK go hW2 j0 j1 jb
   go_wp2_with fail
   refine bodyPost_ret (results_cell_row Tryz.results87 _ _ (w.heap.size+1) 58 _ _ _ rfl (Two.back ((TW.out.set 0 (.int .i64 (deep+1))).set 1 (.bool true))) Tryz.underlying58 rfl rfl) rfl ?_
   refine ⟨by simp,?_⟩
   have P2:w.heap.size≤w.heap.size+1:=by omega
   exact (JB.out.setCell (p:=⟨w.heap.size+1,0,none⟩) P2 _).setCell (p:=⟨w.heap.size+1,1,none⟩) P2 _
 ·have l4:(kd==4)=false:=by simp;omega
  have l5:(kd==5)=false:=by simp;omega
  have l7:(kd==7)=false:=by simp;omega
  by_cases h19:kd=19
  ·subst h19
   rw [show innerT 19 lp=false by rfl]
   go_enter Tryz.func87,Tryz.ntmps87
   go_wp2_with fail
   rw [← hW2]
   refine C.mono ?_
   rintro e w1 ⟨rfl,hw1⟩
   obtain ⟨j0,j1,jb⟩:=KK.out w1 hw1
   obtain ⟨i0,i1,i2,i3,i4⟩:=go w1 j0 j1
   have TW:Hid (Two w1 (w.heap.size+1) [.int .i64 0,.bool false]):=Two.of j1
   have JB:Hid (Below w.heap.size w w1):=jb
   clear hw1 C KK go hW2 j0 j1 jb
   go_wp2_with fail
   refine bodyPost_ret (results_cell_row Tryz.results87 _ _ (w.heap.size+1) 58 _ _ _ rfl (Two.back ((TW.out.set 0 (.int .i64 (deep+1))).set 1 (.bool false))) Tryz.underlying58 rfl rfl) rfl ?_
   refine ⟨by simp,?_⟩
   have P2:w.heap.size≤w.heap.size+1:=by omega
   exact (JB.out.setCell (p:=⟨w.heap.size+1,0,none⟩) P2 _).setCell (p:=⟨w.heap.size+1,1,none⟩) P2 _
  ·have l19:(kd==19)=false:=by simp;exact h19
   rw [show innerT kd lp=lp by unfold innerT;rw [if_neg hl,if_neg h19]]
   clear hl h19
   go_enter Tryz.func87,Tryz.ntmps87
   go_wp2_with fail
   rw [← hW2]
   refine C.mono ?_
   rintro e w1 ⟨rfl,hw1⟩
   obtain ⟨j0,j1,jb⟩:=KK.out w1 hw1
   obtain ⟨i0,i1,i2,i3,i4⟩:=go w1 j0 j1
   have TW:Hid (Two w1 (w.heap.size+1) [.int .i64 0,.bool false]):=Two.of j1
   have JB:Hid (Below w.heap.size w w1):=jb
   clear hw1 C KK go hW2 j0 j1 jb
   go_wp2_with fail
   refine bodyPost_ret (results_cell_row Tryz.results87 _ _ (w.heap.size+1) 58 _ _ _ rfl (Two.back ((TW.out.set 0 (.int .i64 (deep+1))).set 1 (.bool lp))) Tryz.underlying58 rfl rfl) rfl ?_
   refine ⟨by simp,?_⟩
   have P2:w.heap.size≤w.heap.size+1:=by omega
   exact (JB.out.setCell (p:=⟨w.heap.size+1,0,none⟩) P2 _).setCell (p:=⟨w.heap.size+1,1,none⟩) P2 _
end vt
end Go.Proofs.YtkmiagkehcflnaaGreatDoor
