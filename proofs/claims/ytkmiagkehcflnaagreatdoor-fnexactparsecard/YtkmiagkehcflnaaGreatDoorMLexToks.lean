import Derived.Deep.RegionHeld3
import Derived.Test.YtkmiagkehcflnaaGreatDoorMLexSpec
set_option maxRecDepth 100000
set_option maxHeartbeats 8000000
namespace Go.Proofs.YtkmiagkehcflnaaGreatDoor
namespace lex
open Go.RowKit bts scn lit
def RdT (w:World) (ao:Option Addr) (l:List (Int×Nat×Nat)):Prop :=
 ∀i,i<l.length→∃g,ao=some ⟨g,0,none⟩∧w.cell? ⟨g,i*3,none⟩=some (.int .i64 (l.getD i (0,0,0)).1)∧w.cell? ⟨g,i*3+1,none⟩=some (.int .i64 ((l.getD i (0,0,0)).2.1:Int))∧w.cell? ⟨g,i*3+2,none⟩=some (.int .i64 ((l.getD i (0,0,0)).2.2:Int))
theorem tcells_at:∀(l:List (Int×Nat×Nat)) (i:Nat),i<l.length→(tcells l)[i*3]?=some (.int .i64 (l.getD i (0,0,0)).1)∧(tcells l)[i*3+1]?=some (.int .i64 ((l.getD i (0,0,0)).2.1:Int))∧(tcells l)[i*3+2]?=some (.int .i64 ((l.getD i (0,0,0)).2.2:Int))
 |[],i,h=>by simp at h
 |x::r,0,h=>by simp [tcells]
 |x::r,i+1,h=>by
  have ih:=tcells_at r i (by simpa using h)
  have e:tcells (x::r)=[.int .i64 x.1,.int .i64 (x.2.1:Int),.int .i64 (x.2.2:Int)]++tcells r:=by simp [tcells]
  have f:∀j,(tcells (x::r))[3+j]?=(tcells r)[j]?:=by
   intro j
   rw [e,List.getElem?_append_right (by simp)]
   congr 1
   simp
  have g:(x::r).getD (i+1) (0,0,0)=r.getD i (0,0,0):=by simp [List.getD_eq_getElem?_getD]
  rw [g]
  refine ⟨?_,?_,?_⟩
  ·rw [show (i+1)*3=3+i*3 by omega,f];exact ih.1
  ·rw [show (i+1)*3+1=3+(i*3+1) by omega,f];exact ih.2.1
  ·rw [show (i+1)*3+2=3+(i*3+2) by omega,f];exact ih.2.2
theorem RdT.own {w:World} {base n c:Nat} {ao:Option Addr} {l:List (Int×Nat×Nat)} (h:w.ownsRow base 68 3 (.slice ao n c) n (tcells l)) (e:l.length=n):RdT w ao l:=by
 intro i hi
 rcases h.2 with ⟨_,h0⟩|⟨g,c',cur,h',_⟩
 ·omega
 ·simp only [Value.slice.injEq,true_and] at h'
  obtain ⟨rfl,rfl⟩:=h'
  have t:=tcells_at l i hi
  exact ⟨g,rfl,(h.cellAt (i*3) (by omega)).trans t.1,(h.cellAt (i*3+1) (by omega)).trans t.2.1,(h.cellAt (i*3+2) (by omega)).trans t.2.2⟩
theorem RdT.below {w w':World} {ao:Option Addr} {l:List (Int×Nat×Nat)} (h:RdT w ao l) (hb:Below w.heap.size w w'):RdT w' ao l:=by
 intro i hi
 obtain ⟨g,e,h1,h2,h3⟩:=h i hi
 have hg:=World.block_lt_of_cell? _ _ h1
 exact ⟨g,e,(hb.cell (p:=⟨g,i*3,none⟩) hg).trans h1,(hb.cell (p:=⟨g,i*3+1,none⟩) hg).trans h2,(hb.cell (p:=⟨g,i*3+2,none⟩) hg).trans h3⟩
end lex
end Go.Proofs.YtkmiagkehcflnaaGreatDoor
