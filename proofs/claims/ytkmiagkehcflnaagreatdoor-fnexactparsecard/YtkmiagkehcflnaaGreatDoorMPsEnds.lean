import Derived.Test.YtkmiagkehcflnaaGreatDoorMPsStart
set_option linter.unusedVariables false
set_option linter.unusedSimpArgs false
set_option maxRecDepth 100000
set_option maxHeartbeats 8000000
namespace Go.Proofs.YtkmiagkehcflnaaGreatDoor
namespace ps
open Go.RowKit bts nod lex tk
theorem l3ends_any {w0 w:World} {sv tv:Option Addr} {sc tc g:Nat} {zs:List Int} {T:List (Int×Nat×Nat)} {s:Ps} (hS:Sr w0 sv sc tv tc zs T) (h:Pp w0 sv sc tv tc zs T w g s) :
  Calls Tryz.prog 27 #[.pointer (some ⟨g,0,none⟩)] w fun e w'=>e=.returned (.bool (ends zs T s))∧Below w.heap.size w w':=by
 have IS:∀t W,Below w.heap.size w W→Calls Tryz.prog 55 #[.pointer (some ⟨g,0,none⟩),.string t] W fun e w'=>e=.returned (.bool (isP zs T s t))∧Below w.heap.size w w':=fun t W hW=>(l3is_any hS (h.keep hW) t).mono fun e w' ⟨h1,h2⟩=>⟨h1,hW.trans (h2.mono hW.size)⟩
 obtain ⟨h1,h2,hL,hi⟩:=h
 have c1:w.cell? ⟨g,1,none⟩=some (.slice tv T.length tc):=hL.at (j:=1) (by omega)
 have c2:w.cell? ⟨g,2,none⟩=some (.int .i64 (s.at_:Int)):=hL.at (j:=2) (by omega)
 have c3:w.cell? ⟨g,3,none⟩=some (.int .i64 s.bad):=hL.at (j:=3) (by omega)
 have HM:=hS.many
 unfold ends
 rcases over_cases T s with ⟨hb,ho⟩|⟨hb,he,ho⟩|⟨hb,hlt,ho⟩
 ·rw [ho]
  have d:decide (0≤s.bad)=true:=decide_eq_true hb
  clear h1 h2 hL hS IS
  go_enter Tryz.func27,Tryz.ntmps27
  go_wp2_with fail
  go_quiet (fail)
  go_wp2
  go_returns
  exact ⟨rfl,tk.bel_drewN (Below.refl _ _) _⟩
 ·rw [ho]
  have d:decide (0≤s.bad)=false:=decide_eq_false hb
  have d2:decide ((T.length:Int)≤(s.at_:Int))=true:=decide_eq_true (by omega)
  clear h1 h2 hL hS IS
  go_enter Tryz.func27,Tryz.ntmps27
  go_wp2_with fail
  go_quiet (fail)
  go_wp2
  go_returns
  exact ⟨rfl,tk.bel_drewN (Below.refl _ _) _⟩
 ·rw [ho,Bool.false_or]
  have d:decide (0≤s.bad)=false:=decide_eq_false hb
  have d2:decide ((T.length:Int)≤(s.at_:Int))=false:=decide_eq_false (by omega)
  have d3:decide (T.length≤s.at_)=false:=decide_eq_false (by omega)
  have d4:¬T.length≤s.at_:=by omega
  have HC:Hid (∀W,Below w.heap.size w W→W.cell? ⟨g,1,none⟩=some (.slice tv T.length tc)∧W.cell? ⟨g,2,none⟩=some (.int .i64 (s.at_:Int))∧W.cell? ⟨g,3,none⟩=some (.int .i64 s.bad)):=fun W hW=>⟨cellB c1 hW,cellB c2 hW,cellB c3 hW⟩
  have E1:Hid (∀W,Below w.heap.size w W→Calls Tryz.prog 55 #[.pointer (some ⟨g,0,none⟩),.string {data:=#[101,110,100]}] W fun e w'=>e=.returned (.bool (isP zs T s {data:=#[101,110,100]}))∧Below w.heap.size w w'):=IS {data:=#[101,110,100]}
  generalize isP zs T s {data:=#[101,110,100]}=b1 at E1
  have E2:Hid (∀W,Below w.heap.size w W→Calls Tryz.prog 55 #[.pointer (some ⟨g,0,none⟩),.string {data:=#[101,108,115,101]}] W fun e w'=>e=.returned (.bool (isP zs T s {data:=#[101,108,115,101]}))∧Below w.heap.size w w'):=IS {data:=#[101,108,115,101]}
  generalize isP zs T s {data:=#[101,108,115,101]}=b2 at E2
  have E3:Hid (∀W,Below w.heap.size w W→Calls Tryz.prog 55 #[.pointer (some ⟨g,0,none⟩),.string {data:=#[101,108,115,101,105,102]}] W fun e w'=>e=.returned (.bool (isP zs T s {data:=#[101,108,115,101,105,102]}))∧Below w.heap.size w w'):=IS {data:=#[101,108,115,101,105,102]}
  generalize isP zs T s {data:=#[101,108,115,101,105,102]}=b3 at E3
  have E4:Hid (∀W,Below w.heap.size w W→Calls Tryz.prog 55 #[.pointer (some ⟨g,0,none⟩),.string {data:=#[117,110,116,105,108]}] W fun e w'=>e=.returned (.bool (isP zs T s {data:=#[117,110,116,105,108]}))∧Below w.heap.size w w'):=IS {data:=#[117,110,116,105,108]}
  generalize isP zs T s {data:=#[117,110,116,105,108]}=b4 at E4
  clear h1 h2 hL hS IS
  have hh:b1=true∨(b1=false∧b2=true)∨(b1=false∧b2=false∧b3=true)∨(b1=false∧b2=false∧b3=false):=by cases b1 <;> cases b2 <;> cases b3 <;> simp
  rcases hh with rfl|⟨rfl,rfl⟩|⟨rfl,rfl,rfl⟩|⟨rfl,rfl,rfl⟩
  clear E2 E3 E4
  rotate_left
  clear E3 E4
  rotate_left
  clear E4
  rotate_left 2
  all_goals
   go_enter Tryz.func27,Tryz.ntmps27
   go_wp2_with fail
   refine wp_region_noPanic ?_
   refine wp_region_held_drew (S:=(fun W=>W.cell? ⟨g,1,none⟩=some (.slice tv T.length tc)∧W.cell? ⟨g,2,none⟩=some (.int .i64 (s.at_:Int))∧W.cell? ⟨g,3,none⟩=some (.int .i64 s.bad))) (by kernel_rfl) ?_ (fun hHeld=>?_)
   (exact HC.out _ (by repeat (first|exact Below.refl _ _|exact H5.out|exact H4.out|exact H3.out|exact H2.out|refine Below.drew ?_|refine tk.bel_drewN ?_ _)))
   refine wpAnyH_take (i:=0) (v:=?_) rfl (by kernel_rfl) (by kernel_rfl) (by kernel_rfl) (fun _ _ _ h=>h) (Or.inl ⟨by kernel_rfl,?_⟩) (by assumption) ?_;rotate_left;(intro W hSw;obtain ⟨g0,g1,g2⟩:=hSw;go_simp;try with_reducible rfl);try simp only [Act.put,List.setIfInBounds_toArray]
   refine wpAnyH_take (i:=1) (v:=?_) rfl (by kernel_rfl) (by kernel_rfl) (by kernel_rfl) (fun _ _ _ h=>h) (Or.inl ⟨by kernel_rfl,?_⟩) (by assumption) ?_;rotate_left;(intro W hSw;obtain ⟨g0,g1,g2⟩:=hSw;go_simp;try with_reducible rfl);try simp only [Act.put]
   refine wpAnyH_take (i:=2) (v:=?_) rfl (by kernel_rfl) (by kernel_rfl) (by kernel_rfl) (fun _ _ _ h=>h) (Or.inl ⟨by kernel_rfl,?_⟩) (by assumption) ?_;rotate_left;(intro W hSw;obtain ⟨g0,g1,g2⟩:=hSw;go_simp;try with_reducible rfl);try simp only [Act.put]
   refine wpAnyH_take (i:=3) (v:=?_) rfl (by kernel_rfl) (by kernel_rfl) (by kernel_rfl) (fun _ _ _ h=>h) (Or.inl ⟨by kernel_rfl,?_⟩) (by assumption) ?_;rotate_left;(intro W hSw;obtain ⟨g0,g1,g2⟩:=hSw;go_simp;try with_reducible rfl);try simp only [Act.put]
   refine wpAnyH_take (i:=4) (v:=?_) rfl (by kernel_rfl) (by kernel_rfl) (by kernel_rfl) (fun _ _ _ h=>h) (Or.inl ⟨by kernel_rfl,?_⟩) (by assumption) ?_;rotate_left;(intro W hSw;obtain ⟨g0,g1,g2⟩:=hSw;go_simp;try with_reducible rfl);try simp only [Act.put]
   refine wpAnyH_take (i:=5) (v:=?_) rfl (by kernel_rfl) (by kernel_rfl) (by kernel_rfl) (fun _ _ _ h=>h) (Or.inl ⟨by kernel_rfl,?_⟩) (by assumption) ?_;rotate_left;(intro W hSw;obtain ⟨g0,g1,g2⟩:=hSw;go_simp;try with_reducible rfl);try simp only [Act.put]
   refine wpAnyH_take (i:=6) (v:=?_) rfl (by kernel_rfl) (by kernel_rfl) (by kernel_rfl) (fun _ _ _ h=>h) (Or.inl ⟨by kernel_rfl,?_⟩) (by assumption) ?_;rotate_left;(intro W hSw;obtain ⟨g0,g1,g2⟩:=hSw;go_simp;try with_reducible rfl);try simp only [Act.put]
   refine wpAnyH_take (i:=7) (v:=?_) rfl (by kernel_rfl) (by kernel_rfl) (by kernel_rfl) (fun _ _ _ h=>h) (Or.inl ⟨by kernel_rfl,?_⟩) (by assumption) ?_;rotate_left;(intro W hSw;obtain ⟨g0,g1,g2⟩:=hSw;go_simp;try with_reducible rfl);try simp only [Act.put]
   refine wpAnyH_take (i:=8) (v:=?_) rfl (by kernel_rfl) (by kernel_rfl) (by kernel_rfl) (fun _ _ _ h=>h) (Or.inl ⟨by kernel_rfl,?_⟩) (by assumption) ?_;rotate_left;(intro W hSw;obtain ⟨g0,g1,g2⟩:=hSw;go_simp;try with_reducible rfl);try simp only [Act.put]
   refine wpAnyH_take (i:=9) (v:=?_) rfl (by kernel_rfl) (by kernel_rfl) (by kernel_rfl) (fun _ _ _ h=>h) (Or.inl ⟨by kernel_rfl,?_⟩) (by assumption) ?_;rotate_left;(intro W hSw;obtain ⟨g0,g1,g2⟩:=hSw;go_simp;try with_reducible rfl);try simp only [Act.put]
   refine wpAnyH_take (i:=10) (v:=?_) rfl (by kernel_rfl) (by kernel_rfl) (by kernel_rfl) (fun _ _ _ h=>h) (Or.inl ⟨by kernel_rfl,?_⟩) (by assumption) ?_;rotate_left;(intro W hSw;obtain ⟨g0,g1,g2⟩:=hSw;go_simp;try with_reducible rfl);try simp only [Act.put]
   refine wpAnyH_take (i:=11) (v:=?_) rfl (by kernel_rfl) (by kernel_rfl) (by kernel_rfl) (fun _ _ _ h=>h) (Or.inl ⟨by kernel_rfl,?_⟩) (by assumption) ?_;rotate_left;(intro W hSw;obtain ⟨g0,g1,g2⟩:=hSw;go_simp;try with_reducible rfl);try simp only [Act.put]
   refine wpAnyH_take (i:=12) (v:=?_) rfl (by kernel_rfl) (by kernel_rfl) (by kernel_rfl) (fun _ _ _ h=>h) (Or.inl ⟨by kernel_rfl,?_⟩) (by assumption) ?_;rotate_left;(intro W hSw;obtain ⟨g0,g1,g2⟩:=hSw;go_simp;try with_reducible rfl);try simp only [Act.put]
   refine wpAnyH_take (i:=13) (v:=?_) rfl (by kernel_rfl) (by kernel_rfl) (by kernel_rfl) (fun _ _ _ h=>h) (Or.inl ⟨by kernel_rfl,?_⟩) (by assumption) ?_;rotate_left;(intro W hSw;obtain ⟨g0,g1,g2⟩:=hSw;go_simp;try with_reducible rfl);try simp only [Act.put]
   refine wpAnyH_take (i:=14) (v:=?_) rfl (by kernel_rfl) (by kernel_rfl) (by kernel_rfl) (fun _ _ _ h=>h) (Or.inl ⟨by kernel_rfl,?_⟩) (by assumption) ?_;rotate_left;(intro W hSw;obtain ⟨g0,g1,g2⟩:=hSw;go_simp;try with_reducible rfl);try simp only [Act.put]
   refine wpAnyH_take (i:=15) (v:=?_) rfl (by kernel_rfl) (by kernel_rfl) (by kernel_rfl) (fun _ _ _ h=>h) (Or.inl ⟨by kernel_rfl,?_⟩) (by assumption) ?_;rotate_left;(intro W hSw;obtain ⟨g0,g1,g2⟩:=hSw;go_simp;try with_reducible rfl);try simp only [Act.put]
   refine wpAnyH_take (i:=16) (v:=?_) rfl (by kernel_rfl) (by kernel_rfl) (by kernel_rfl) (fun _ _ _ h=>h) (Or.inl ⟨by kernel_rfl,?_⟩) (by assumption) ?_;rotate_left;(intro W hSw;obtain ⟨g0,g1,g2⟩:=hSw;go_simp;try with_reducible rfl);try simp only [Act.put]
   refine wpAnyH_take (i:=17) (v:=?_) rfl (by kernel_rfl) (by kernel_rfl) (by kernel_rfl) (fun _ _ _ h=>h) (Or.inl ⟨by kernel_rfl,?_⟩) (by assumption) ?_;rotate_left;(intro W hSw;obtain ⟨g0,g1,g2⟩:=hSw;go_simp;try with_reducible rfl);try simp only [Act.put]
   refine wpAnyH_take (i:=18) (v:=?_) rfl (by kernel_rfl) (by kernel_rfl) (by kernel_rfl) (fun _ _ _ h=>h) (Or.inl ⟨by kernel_rfl,?_⟩) (by assumption) ?_;rotate_left;(intro W hSw;obtain ⟨g0,g1,g2⟩:=hSw;go_simp;try with_reducible rfl);try simp only [Act.put]
   refine wpAnyH_ready (rs:=[19]) (by kernel_rfl) (by simp) ?_;refine (AllReadyH.cons rfl (fun K hK=>?_) AllReadyH.nil);go_simp;(go_at_call 55;(with_reducible refine Calls.mono (E1.out _ (by repeat (first|exact Below.refl _ _|exact H5.out|exact H4.out|exact H3.out|exact H2.out|refine Below.drew ?_|refine tk.bel_drewN ?_ _))) ?_);rintro e w2 ⟨rfl,hb⟩;have H2:Hid (Below w.heap.size w w2):=hb;clear hb);(first|refine hK.out _ _ (HC.out _ H2.out) (fun hHeld2=>?_));clear hK K hHeld;have hHeld:=hHeld2;clear hHeld2;try simp only [Act.put,List.setIfInBounds_toArray,List.set_cons_zero,List.set_cons_succ]
   refine wpAnyH_take (i:=20) (v:=?_) rfl (by kernel_rfl) (by kernel_rfl) (by kernel_rfl) (fun _ _ _ h=>h) (Or.inl ⟨by kernel_rfl,?_⟩) (by assumption) ?_;rotate_left;(intro W hSw;obtain ⟨g0,g1,g2⟩:=hSw;go_simp;try with_reducible rfl);try simp only [Act.put,List.setIfInBounds_toArray]
   refine wpAnyH_take (i:=21) (v:=?_) rfl (by kernel_rfl) (by kernel_rfl) (by kernel_rfl) (fun _ _ _ h=>h) (Or.inl ⟨by kernel_rfl,?_⟩) (by assumption) ?_;rotate_left;(intro W hSw;obtain ⟨g0,g1,g2⟩:=hSw;go_simp;try with_reducible rfl);try simp only [Act.put]
   first
    |(have z:=E2.out;clear z;refine wpAnyH_take (i:=22) (v:=?_) rfl (by kernel_rfl) (by kernel_rfl) (by kernel_rfl) (fun _ _ _ h=>h) (Or.inl ⟨by kernel_rfl,?_⟩) (by assumption) ?_;rotate_left;(intro W hSw;obtain ⟨g0,g1,g2⟩:=hSw;go_simp;try with_reducible rfl);try simp only [Act.put];refine wpAnyH_ready (rs:=[23]) (by kernel_rfl) (by simp) ?_;refine (AllReadyH.cons rfl (fun K hK=>?_) AllReadyH.nil);go_simp;(go_at_call 55;(with_reducible refine Calls.mono (E2.out _ (by repeat (first|exact Below.refl _ _|exact H5.out|exact H4.out|exact H3.out|exact H2.out|refine Below.drew ?_|refine tk.bel_drewN ?_ _))) ?_);rintro e w3 ⟨rfl,hb⟩;have H3:Hid (Below w.heap.size w w3):=hb;clear hb);(first|refine hK.out _ _ (HC.out _ H3.out) (fun hHeld2=>?_));clear hK K hHeld;have hHeld:=hHeld2;clear hHeld2;try simp only [Act.put,List.setIfInBounds_toArray,List.set_cons_zero,List.set_cons_succ])
    |(refine wpAnyH_take (i:=22) (v:=_) rfl (by kernel_rfl) (by kernel_rfl) (by kernel_rfl) (fun _ _ _ h=>h) (Or.inr ⟨by kernel_rfl,rfl⟩) (by assumption) ?_;try simp only [Act.put];refine wpAnyH_take (i:=23) (v:=_) rfl (by kernel_rfl) (by kernel_rfl) (by kernel_rfl) (fun _ _ _ h=>h) (Or.inr ⟨by kernel_rfl,rfl⟩) (by assumption) ?_;try simp only [Act.put])
   refine wpAnyH_take (i:=24) (v:=?_) rfl (by kernel_rfl) (by kernel_rfl) (by kernel_rfl) (fun _ _ _ h=>h) (Or.inl ⟨by kernel_rfl,?_⟩) (by assumption) ?_;rotate_left;(intro W hSw;obtain ⟨g0,g1,g2⟩:=hSw;go_simp;try with_reducible rfl);try simp only [Act.put,List.setIfInBounds_toArray]
   refine wpAnyH_take (i:=25) (v:=?_) rfl (by kernel_rfl) (by kernel_rfl) (by kernel_rfl) (fun _ _ _ h=>h) (Or.inl ⟨by kernel_rfl,?_⟩) (by assumption) ?_;rotate_left;(intro W hSw;obtain ⟨g0,g1,g2⟩:=hSw;go_simp;try with_reducible rfl);try simp only [Act.put]
   first
    |(have z:=E3.out;clear z;refine wpAnyH_take (i:=26) (v:=?_) rfl (by kernel_rfl) (by kernel_rfl) (by kernel_rfl) (fun _ _ _ h=>h) (Or.inl ⟨by kernel_rfl,?_⟩) (by assumption) ?_;rotate_left;(intro W hSw;obtain ⟨g0,g1,g2⟩:=hSw;go_simp;try with_reducible rfl);try simp only [Act.put];refine wpAnyH_ready (rs:=[27]) (by kernel_rfl) (by simp) ?_;refine (AllReadyH.cons rfl (fun K hK=>?_) AllReadyH.nil);go_simp;(go_at_call 55;(with_reducible refine Calls.mono (E3.out _ (by repeat (first|exact Below.refl _ _|exact H5.out|exact H4.out|exact H3.out|exact H2.out|refine Below.drew ?_|refine tk.bel_drewN ?_ _))) ?_);rintro e w4 ⟨rfl,hb⟩;have H4:Hid (Below w.heap.size w w4):=hb;clear hb);(first|refine hK.out _ _ (HC.out _ H4.out) (fun hHeld2=>?_));clear hK K hHeld;have hHeld:=hHeld2;clear hHeld2;try simp only [Act.put,List.setIfInBounds_toArray,List.set_cons_zero,List.set_cons_succ])
    |(refine wpAnyH_take (i:=26) (v:=_) rfl (by kernel_rfl) (by kernel_rfl) (by kernel_rfl) (fun _ _ _ h=>h) (Or.inr ⟨by kernel_rfl,rfl⟩) (by assumption) ?_;try simp only [Act.put];refine wpAnyH_take (i:=27) (v:=_) rfl (by kernel_rfl) (by kernel_rfl) (by kernel_rfl) (fun _ _ _ h=>h) (Or.inr ⟨by kernel_rfl,rfl⟩) (by assumption) ?_;try simp only [Act.put])
   refine wpAnyH_take (i:=28) (v:=?_) rfl (by kernel_rfl) (by kernel_rfl) (by kernel_rfl) (fun _ _ _ h=>h) (Or.inl ⟨by kernel_rfl,?_⟩) (by assumption) ?_;rotate_left;(intro W hSw;obtain ⟨g0,g1,g2⟩:=hSw;go_simp;try with_reducible rfl);try simp only [Act.put,List.setIfInBounds_toArray]
   refine wpAnyH_take (i:=29) (v:=?_) rfl (by kernel_rfl) (by kernel_rfl) (by kernel_rfl) (fun _ _ _ h=>h) (Or.inl ⟨by kernel_rfl,?_⟩) (by assumption) ?_;rotate_left;(intro W hSw;obtain ⟨g0,g1,g2⟩:=hSw;go_simp;try with_reducible rfl);try simp only [Act.put]
   first
    |(have z:=E4.out;clear z;refine wpAnyH_take (i:=30) (v:=?_) rfl (by kernel_rfl) (by kernel_rfl) (by kernel_rfl) (fun _ _ _ h=>h) (Or.inl ⟨by kernel_rfl,?_⟩) (by assumption) ?_;rotate_left;(intro W hSw;obtain ⟨g0,g1,g2⟩:=hSw;go_simp;try with_reducible rfl);try simp only [Act.put];refine wpAnyH_ready (rs:=[31]) (by kernel_rfl) (by simp) ?_;refine (AllReadyH.cons rfl (fun K hK=>?_) AllReadyH.nil);go_simp;(go_at_call 55;(with_reducible refine Calls.mono (E4.out _ (by repeat (first|exact Below.refl _ _|exact H5.out|exact H4.out|exact H3.out|exact H2.out|refine Below.drew ?_|refine tk.bel_drewN ?_ _))) ?_);rintro e w5 ⟨rfl,hb⟩;have H5:Hid (Below w.heap.size w w5):=hb;clear hb);(first|refine hK.out _ _ (HC.out _ H5.out) (fun hHeld2=>?_));clear hK K hHeld;have hHeld:=hHeld2;clear hHeld2;try simp only [Act.put,List.setIfInBounds_toArray,List.set_cons_zero,List.set_cons_succ])
    |(refine wpAnyH_take (i:=30) (v:=_) rfl (by kernel_rfl) (by kernel_rfl) (by kernel_rfl) (fun _ _ _ h=>h) (Or.inr ⟨by kernel_rfl,rfl⟩) (by assumption) ?_;try simp only [Act.put];refine wpAnyH_take (i:=31) (v:=_) rfl (by kernel_rfl) (by kernel_rfl) (by kernel_rfl) (fun _ _ _ h=>h) (Or.inr ⟨by kernel_rfl,rfl⟩) (by assumption) ?_;try simp only [Act.put])
   refine wpAnyH_take (i:=32) (v:=?_) rfl (by kernel_rfl) (by kernel_rfl) (by kernel_rfl) (fun _ _ _ h=>h) (Or.inl ⟨by kernel_rfl,?_⟩) (by assumption) ?_;rotate_left;(intro W hSw;obtain ⟨g0,g1,g2⟩:=hSw;go_simp;try with_reducible rfl);try simp only [Act.put,List.setIfInBounds_toArray]
   refine wpAnyH_ready (rs:=[33]) (by kernel_rfl) (by simp) ?_;refine (AllReadyH.cons rfl (fun K hK=>?_) AllReadyH.nil);go_simp;(first|refine hK.out _ _ (HC.out _ H5.out) (fun hHeld2=>?_)|refine hK.out _ _ (HC.out _ H4.out) (fun hHeld2=>?_)|refine hK.out _ _ (HC.out _ H3.out) (fun hHeld2=>?_)|refine hK.out _ _ (HC.out _ H2.out) (fun hHeld2=>?_));clear hK K hHeld;have hHeld:=hHeld2;clear hHeld2;try simp only [Act.put,List.setIfInBounds_toArray,List.set_cons_zero,List.set_cons_succ]
   refine wpAnyH_done (by kernel_rfl) ?_ _
   refine NoPanic.normal ?_
   go_wp2
   go_returns
   first|exact ⟨by simp,H5.out⟩|exact ⟨by simp,H4.out⟩|exact ⟨by simp,H3.out⟩|exact ⟨by simp,H2.out⟩
end ps
end Go.Proofs.YtkmiagkehcflnaaGreatDoor
