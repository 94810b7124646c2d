import Derived.Test.YtdchgbmliojoiaaGreatDoorG17
import Derived.Test.YtdchgbmliojoiaaGreatDoorG18
set_option maxRecDepth 100000
set_option maxHeartbeats 4000000
set_option linter.unusedVariables false
set_option linter.unusedSimpArgs false
namespace Go.Proofs.YtdchgbmliojoiaaGreatDoor
open Go Go.RowKit Go.Maps
theorem FV (tb ab:Nat) (n li used lb c d:Int) (w:World) (h:AG w tb 175 [pq ab 0,.int .i64 n,.int .i64 li,.int .i64 used,.int .i64 lb]) (hn:0<=n/\n<=1000000) (hl:0<=li/\li<=1000000) (hu:0<=used/\used<=1000000) (hb:0<=lb/\lb<=1000000):
  Calls Tryz.prog 120 #[pq tb 0,.int .i64 c,.int .i64 d] w fun e w'=>e= .returned (.bool (decide (c<=li-n)&&decide (d<=lb-used)))/\w'.heap=w.heap/\Below w.heap.size w w':=by
 have hcell:∀w':World,w'.heap=w.heap->∀a,w'.cell? a=w.cell? a:=fun w' h a=>by unfold World.cell?;rw [h]
 have R1:=AC (show ∀w':World,w'.heap=w.heap->(Instr.loadAt 3 (pq tb 1)).run Tryz.prog w'= .ok (.int .i64 n) w' from fun w' hh=>by
  have c:w'.cell? (pK tb 1)=some (.int .i64 n):=by rw [hcell w' hh];exact h.cell rfl
  clear hcell h
  go_simp)
 have R2:=AC (show ∀w':World,w'.heap=w.heap->(Instr.loadAt 3 (pq tb 2)).run Tryz.prog w'= .ok (.int .i64 li) w' from fun w' hh=>by
  have c:w'.cell? (pK tb 2)=some (.int .i64 li):=by rw [hcell w' hh];exact h.cell rfl
  clear hcell h
  go_simp)
 have R3:=AC (show ∀w':World,w'.heap=w.heap->(Instr.loadAt 3 (pq tb 3)).run Tryz.prog w'= .ok (.int .i64 used) w' from fun w' hh=>by
  have c:w'.cell? (pK tb 3)=some (.int .i64 used):=by rw [hcell w' hh];exact h.cell rfl
  clear hcell h
  go_simp)
 have R4:=AC (show ∀w':World,w'.heap=w.heap->(Instr.loadAt 3 (pq tb 4)).run Tryz.prog w'= .ok (.int .i64 lb) w' from fun w' hh=>by
  have c:w'.cell? (pK tb 4)=some (.int .i64 lb):=by rw [hcell w' hh];exact h.cell rfl
  clear hcell h
  go_simp)
 have S1:=AC (show ∀w':World,((do eqGuard .sub 3 (.tmp 11) (.tmp 15) (.int .i64 li) (.int .i64 n);binOp .sub 3 (.int .i64 li) (.int .i64 n):Sem Value)).run Tryz.prog w'= .ok (.int .i64 (li-n)) w' from fun w'=>by
  clear hcell h
  go_simp
  rw [yl]
  omega)
 have S2:=AC (show ∀w':World,((do eqGuard .sub 3 (.tmp 23) (.tmp 27) (.int .i64 lb) (.int .i64 used);binOp .sub 3 (.int .i64 lb) (.int .i64 used):Sem Value)).run Tryz.prog w'= .ok (.int .i64 (lb-used)) w' from fun w'=>by
  clear hcell h
  go_simp
  rw [yl]
  omega)
 obtain ⟨x,hx⟩:∃x,x=li-n:=⟨_,rfl⟩
 obtain ⟨y,hy⟩:∃y,y=lb-used:=⟨_,rfl⟩
 rw [<-hx] at S1 ⊢
 rw [<-hy] at S2 ⊢
 have L1:=AC (show ∀w':World,((do eqGuard .leq 3 (.tmp 7) (.tmp 16) (.int .i64 c) (.int .i64 x);binOp .leq 3 (.int .i64 c) (.int .i64 x):Sem Value)).run Tryz.prog w'= .ok (.bool (decide (c<=x))) w' from fun w'=>by
  clear hcell h R1 R2 R3 R4 S1 S2
  go_simp)
 have L2:=AC (show ∀w':World,((do eqGuard .leq 3 (.tmp 19) (.tmp 28) (.int .i64 d) (.int .i64 y);binOp .leq 3 (.int .i64 d) (.int .i64 y):Sem Value)).run Tryz.prog w'= .ok (.bool (decide (d<=y))) w' from fun w'=>by
  clear hcell h R1 R2 R3 R4 S1 S2
  go_simp)
 obtain ⟨p,hp⟩:∃p,p=decide (c<=x):=⟨_,rfl⟩
 obtain ⟨q,hq⟩:∃q,q=decide (d<=y):=⟨_,rfl⟩
 rw [<-hp] at L1 ⊢
 rw [<-hq] at L2 ⊢
 clear hcell h hn hl hu hb hx hy hp hq
 go_enter Tryz.func120,Tryz.ntmps120
 go_wp2
 refine BA ?_
 intro A hA
 have e0:A.eval (.tmp 0)= pq tb 0:=by rw [hA];rfl
 have e1:A.eval (.tmp 1)= .int .i64 c:=by rw [hA];rfl
 have e2:A.eval (.tmp 2)= .int .i64 d:=by rw [hA];rfl
 have esz:A.tmps.size=31:=by rw [hA];rfl
 have HA:=AC hA
 clear hA
 refine wp_region_held_drew (S:=fun w'=>w'.heap=w.heap) (by kernel_rfl) rfl (fun hS=> ?_)
 refine tk 0 (some 7) rfl rfl (by kernel_rfl) (fun _ _ _=>id) (AK rfl _ rfl (.int .i64 c) (by simp [AF,AE,esz,e0,e1,e2])) hS ?_
 refine tk 1 (some 8) rfl rfl (by kernel_rfl) (fun _ _ _=>id) (AK rfl _ rfl (pq tb 0) (by simp [AF,AE,esz,e0,e1,e2])) hS ?_
 refine tk 2 (some 9) rfl rfl (by kernel_rfl) (fun _ _ _=>id) (AX rfl _ rfl (pK tb 0) (by simp [AF,AE,esz,e0,e1,e2])) hS ?_
 refine tk 3 (some 10) rfl rfl (by kernel_rfl) (fun _ _ _=>id) (AO rfl _ _ _ rfl (pq tb 0) (by simp [AF,AE,esz,e0,e1,e2]) (pq tb 2) (fun w'=>by go_simp)) hS ?_
 refine tk 4 (some 11) rfl rfl (by kernel_rfl) (fun _ _ _=>id) (AQ rfl _ _ rfl (pK tb 2) (by simp [AF,AE,esz,e0,e1,e2]) (.int .i64 li) (AB R2)) hS ?_
 refine tk 5 (some 12) rfl rfl (by kernel_rfl) (fun _ _ _=>id) (AK rfl _ rfl (pq tb 0) (by simp [AF,AE,esz,e0,e1,e2])) hS ?_
 refine tk 6 (some 13) rfl rfl (by kernel_rfl) (fun _ _ _=>id) (AX rfl _ rfl (pK tb 0) (by simp [AF,AE,esz,e0,e1,e2])) hS ?_
 refine tk 7 (some 14) rfl rfl (by kernel_rfl) (fun _ _ _=>id) (AO rfl _ _ _ rfl (pq tb 0) (by simp [AF,AE,esz,e0,e1,e2]) (pq tb 1) (fun w'=>by go_simp)) hS ?_
 refine tk 8 (some 15) rfl rfl (by kernel_rfl) (fun _ _ _=>id) (AQ rfl _ _ rfl (pK tb 1) (by simp [AF,AE,esz,e0,e1,e2]) (.int .i64 n) (AB R1)) hS ?_
 refine tk 9 (some 16) rfl rfl (by kernel_rfl) (fun _ _ _=>id) (B7 rfl .sub _ _ (.tmp 11) (.tmp 15) rfl (.int .i64 li) (.int .i64 n) (by simp [AF,AE,esz,e0,e1,e2]) (by simp [AF,AE,esz,e0,e1,e2]) (.int .i64 x) (AB S1)) hS ?_
 refine tk 10 (some 17) rfl rfl (by kernel_rfl) (fun _ _ _=>id) (B7 rfl .leq _ _ (.tmp 7) (.tmp 16) rfl (.int .i64 c) (.int .i64 x) (by simp [AF,AE,esz,e0,e1,e2]) (by simp [AF,AE,esz,e0,e1,e2]) (.bool p) (AB L1)) hS ?_
 refine tk 11 (some 18) rfl rfl (by kernel_rfl) (fun _ _ _=>id) (AK rfl _ rfl (.bool p) (by simp [AF,AE,esz,e0,e1,e2])) hS ?_
 cases p with
 |true=>
  refine tk 12 (some 19) rfl rfl (by kernel_rfl) (fun _ _ _=>id) (Da 11 18 rfl rfl (by simp [AE,esz]) (by simp [AF,AE,esz,e0,e1,e2]) (AK rfl _ rfl (.int .i64 d) (by simp [AF,AE,esz,e0,e1,e2]))) hS ?_
  refine tk 13 (some 20) rfl rfl (by kernel_rfl) (fun _ _ _=>id) (Da 11 18 rfl rfl (by simp [AE,esz]) (by simp [AF,AE,esz,e0,e1,e2]) (AK rfl _ rfl (pq tb 0) (by simp [AF,AE,esz,e0,e1,e2]))) hS ?_
  refine tk 14 (some 21) rfl rfl (by kernel_rfl) (fun _ _ _=>id) (Da 11 18 rfl rfl (by simp [AE,esz]) (by simp [AF,AE,esz,e0,e1,e2]) (AX rfl _ rfl (pK tb 0) (by simp [AF,AE,esz,e0,e1,e2]))) hS ?_
  refine tk 15 (some 22) rfl rfl (by kernel_rfl) (fun _ _ _=>id) (Da 11 18 rfl rfl (by simp [AE,esz]) (by simp [AF,AE,esz,e0,e1,e2]) (AO rfl _ _ _ rfl (pq tb 0) (by simp [AF,AE,esz,e0,e1,e2]) (pq tb 4) (fun w'=>by go_simp))) hS ?_
  refine tk 16 (some 23) rfl rfl (by kernel_rfl) (fun _ _ _=>id) (Da 11 18 rfl rfl (by simp [AE,esz]) (by simp [AF,AE,esz,e0,e1,e2]) (AQ rfl _ _ rfl (pK tb 4) (by simp [AF,AE,esz,e0,e1,e2]) (.int .i64 lb) (AB R4))) hS ?_
  refine tk 17 (some 24) rfl rfl (by kernel_rfl) (fun _ _ _=>id) (Da 11 18 rfl rfl (by simp [AE,esz]) (by simp [AF,AE,esz,e0,e1,e2]) (AK rfl _ rfl (pq tb 0) (by simp [AF,AE,esz,e0,e1,e2]))) hS ?_
  refine tk 18 (some 25) rfl rfl (by kernel_rfl) (fun _ _ _=>id) (Da 11 18 rfl rfl (by simp [AE,esz]) (by simp [AF,AE,esz,e0,e1,e2]) (AX rfl _ rfl (pK tb 0) (by simp [AF,AE,esz,e0,e1,e2]))) hS ?_
  refine tk 19 (some 26) rfl rfl (by kernel_rfl) (fun _ _ _=>id) (Da 11 18 rfl rfl (by simp [AE,esz]) (by simp [AF,AE,esz,e0,e1,e2]) (AO rfl _ _ _ rfl (pq tb 0) (by simp [AF,AE,esz,e0,e1,e2]) (pq tb 3) (fun w'=>by go_simp))) hS ?_
  refine tk 20 (some 27) rfl rfl (by kernel_rfl) (fun _ _ _=>id) (Da 11 18 rfl rfl (by simp [AE,esz]) (by simp [AF,AE,esz,e0,e1,e2]) (AQ rfl _ _ rfl (pK tb 3) (by simp [AF,AE,esz,e0,e1,e2]) (.int .i64 used) (AB R3))) hS ?_
  refine tk 21 (some 28) rfl rfl (by kernel_rfl) (fun _ _ _=>id) (Da 11 18 rfl rfl (by simp [AE,esz]) (by simp [AF,AE,esz,e0,e1,e2]) (B7 rfl .sub _ _ (.tmp 23) (.tmp 27) rfl (.int .i64 lb) (.int .i64 used) (by simp [AF,AE,esz,e0,e1,e2]) (by simp [AF,AE,esz,e0,e1,e2]) (.int .i64 y) (AB S2))) hS ?_
  refine tk 22 (some 29) rfl rfl (by kernel_rfl) (fun _ _ _=>id) (Da 11 18 rfl rfl (by simp [AE,esz]) (by simp [AF,AE,esz,e0,e1,e2]) (B7 rfl .leq _ _ (.tmp 19) (.tmp 28) rfl (.int .i64 d) (.int .i64 y) (by simp [AF,AE,esz,e0,e1,e2]) (by simp [AF,AE,esz,e0,e1,e2]) (.bool q) (AB L2))) hS ?_
  refine tk 23 (some 30) rfl rfl (by kernel_rfl) (fun _ _ _=>id) (Is rfl _ _ _ rfl true (.bool q) (by simp [AF,AE,esz,e0,e1,e2]) ((if_pos rfl).trans (by simp [AF,AE,esz,e0,e1,e2]))) hS ?_
  refine tk 24 (some 6) rfl rfl (by kernel_rfl) (fun _ _ _=>id) (Bj rfl (v:= .bool q) (fun w' _=>by simp only [execOp];simp [AF,AE,esz,e0,e1,e2])) hS ?_
  refine wpAnyH_done (by kernel_rfl) ?_ _
  rw [AB HA]
  simp only [Act.put,zm,zi,zj]
  clear R1 R2 R3 R4 S1 S2 L1 L2 HA e0 e1 e2 esz hS
  go_wp2
  go_ret
  exact ⟨rfl,rfl,⟨rfl,rfl,rfl,zx _,fun _ _=>rfl⟩⟩
 |false=>
  refine tk 12 (some 19) rfl rfl (by kernel_rfl) (fun _ _ _=>id) (Cy 11 18 rfl rfl (by simp [AE,esz]) (by simp [AF,AE,esz,e0,e1,e2])) hS ?_
  refine tk 13 (some 20) rfl rfl (by kernel_rfl) (fun _ _ _=>id) (Cy 11 18 rfl rfl (by simp [AE,esz]) (by simp [AF,AE,esz,e0,e1,e2])) hS ?_
  refine tk 14 (some 21) rfl rfl (by kernel_rfl) (fun _ _ _=>id) (Cy 11 18 rfl rfl (by simp [AE,esz]) (by simp [AF,AE,esz,e0,e1,e2])) hS ?_
  refine tk 15 (some 22) rfl rfl (by kernel_rfl) (fun _ _ _=>id) (Cy 11 18 rfl rfl (by simp [AE,esz]) (by simp [AF,AE,esz,e0,e1,e2])) hS ?_
  refine tk 16 (some 23) rfl rfl (by kernel_rfl) (fun _ _ _=>id) (Cy 11 18 rfl rfl (by simp [AE,esz]) (by simp [AF,AE,esz,e0,e1,e2])) hS ?_
  refine tk 17 (some 24) rfl rfl (by kernel_rfl) (fun _ _ _=>id) (Cy 11 18 rfl rfl (by simp [AE,esz]) (by simp [AF,AE,esz,e0,e1,e2])) hS ?_
  refine tk 18 (some 25) rfl rfl (by kernel_rfl) (fun _ _ _=>id) (Cy 11 18 rfl rfl (by simp [AE,esz]) (by simp [AF,AE,esz,e0,e1,e2])) hS ?_
  refine tk 19 (some 26) rfl rfl (by kernel_rfl) (fun _ _ _=>id) (Cy 11 18 rfl rfl (by simp [AE,esz]) (by simp [AF,AE,esz,e0,e1,e2])) hS ?_
  refine tk 20 (some 27) rfl rfl (by kernel_rfl) (fun _ _ _=>id) (Cy 11 18 rfl rfl (by simp [AE,esz]) (by simp [AF,AE,esz,e0,e1,e2])) hS ?_
  refine tk 21 (some 28) rfl rfl (by kernel_rfl) (fun _ _ _=>id) (Cy 11 18 rfl rfl (by simp [AE,esz]) (by simp [AF,AE,esz,e0,e1,e2])) hS ?_
  refine tk 22 (some 29) rfl rfl (by kernel_rfl) (fun _ _ _=>id) (Cy 11 18 rfl rfl (by simp [AE,esz]) (by simp [AF,AE,esz,e0,e1,e2])) hS ?_
  refine tk 23 (some 30) rfl rfl (by kernel_rfl) (fun _ _ _=>id) (Is rfl _ _ _ rfl false (.bool false) (by simp [AF,AE,esz,e0,e1,e2]) (if_neg (by decide))) hS ?_
  refine tk 24 (some 6) rfl rfl (by kernel_rfl) (fun _ _ _=>id) (Bj rfl (v:= .bool false) (fun w' _=>by simp only [execOp];simp [AF,AE,esz,e0,e1,e2])) hS ?_
  refine wpAnyH_done (by kernel_rfl) ?_ _
  rw [AB HA]
  simp only [Act.put,zm,zi,zj]
  clear R1 R2 R3 R4 S1 S2 L1 L2 HA e0 e1 e2 esz hS
  go_wp2
  go_ret
  exact ⟨rfl,rfl,⟨rfl,rfl,rfl,zx _,fun _ _=>rfl⟩⟩
theorem Kb (tb ab:Nat) (n li used lb:Int) (w:World) (h:AG w tb 175 [pq ab 0,.int .i64 n,.int .i64 li,.int .i64 used,.int .i64 lb]) (hn:0<=n/\n<=1000000) (hl:0<=li/\li<=1000000) (hu:0<=used/\used<=lb) (hb:lb<=1000000):
  Calls Tryz.prog 117 #[pq tb 0] w fun e w'=>e= .returned (.bool (decide (li<=n)))/\w'.heap=w.heap/\Below w.heap.size w w':=by
 have HR:=AC (FV tb ab n li used lb 1 0 w h hn hl ⟨by omega,by omega⟩ ⟨by omega,hb⟩)
 have he:(decide ((1:Int)<=li-n)&&decide ((0:Int)<=lb-used))= !decide (li<=n):=by
  by_cases q:li<=n
  ·rw [decide_eq_true q,decide_eq_false (by omega)];rfl
  ·rw [decide_eq_false q,decide_eq_true (by omega),decide_eq_true (by omega)];rfl
 rw [he] at HR
 obtain ⟨q,hq⟩:∃q,q=decide (li<=n):=⟨_,rfl⟩
 rw [<-hq] at HR ⊢
 clear h hn hl hu hb he hq
 go_enter Tryz.func117,Tryz.ntmps117
 go_wp2_with fail
 refine (AB HR).mono ?_
 rintro e w1 ⟨rfl,hw1,hb1⟩
 have HW:=AC hw1
 have HB:=AC hb1
 clear hw1 hb1 HR
 cases q with
 |true=>
  go_wp2
  go_ret
  exact ⟨rfl,AB HW,AB HB⟩
 |false=>
  go_wp2
  go_ret
  exact ⟨rfl,AB HW,AB HB⟩
theorem Ao.heap {w w':World} {m n:Nat} {f:ByteArray->Option Nat} (h:Ao w m n f) (hh:w'.heap=w.heap):Ao w' m n f:=by
 obtain ⟨D,⟨es,clock,hb,F,hs,hD⟩,hf⟩:=h
 exact ⟨D,⟨es,clock,by rw [hh];exact hb,F,hs,hD⟩,hf⟩
theorem On {P:Program} {ops:Array Oper} {S:World->Prop} {o:Oper} {A:Act} (hg:o.guard=none) (t:TypeId) (x y:Operand) (ho:o.op= .lookup t x y false) (vx vy:Value) (hx:A.eval x=vx) (hy:A.eval y=vy) (v:Value) (hrun:∀w',S w'->(Instr.lookup t vx vy false).run P w'= .ok v w'):YieldsIf P ops S o v A:=
 Bj hg fun w' hS=>by simp only [execOp,ho,hx,hy,Sem.run_bind,hrun w' hS,yk,Sem.run_pure]
theorem Hz (b m n:Nat) (name pth:ByteArray) (f:ByteArray->Option Nat) (w:World) (hn:name.size<=maxLen) (hc:w.cell? (pK b 3)=some (.map (some m))) (hd:Ao w m n f):
  Calls Tryz.prog 116 #[.agg #[pq b 0,.string name,.string pth]] w fun e w'=>e= .returned (CG (f name))/\Below w.heap.size w w':=by
 obtain ⟨W0,hW0⟩:∃W0,W0=w.alloc (Obj.cells #[pq b 0,.string name,.string pth] 178):=⟨_,rfl⟩
 have hb0:Below w.heap.size w W0:=by rw [hW0];exact (zw _ _).alloc (zx _) _
 have hp0:AG W0 w.heap.size 178 [pq b 0,.string name,.string pth]:=by rw [hW0];exact AG.new w 178 _
 have hd0:Ao W0 m n f:=hd.kept (row:=none) ⟨hb0.os,hb0.tape,hb0.output,hb0.size,fun k hk _=>hb0.block k hk⟩ (by simp)
 have hc0:W0.cell? (pK b 3)=some (.map (some m)):=by rw [hb0.cell (p:=(pK b 3)) (zu w _ hc)];exact hc
 have hcell:∀w':World,w'.heap=W0.heap->∀a,w'.cell? a=W0.cell? a:=fun w' h a=>by unfold World.cell?;rw [h]
 have R0:=AC (show ∀w':World,w'.heap=W0.heap->(Instr.loadAt 172 (pq w.heap.size 0)).run Tryz.prog w'= .ok (pq b 0) w' from fun w' h=>by
  have c:w'.cell? (pK w.heap.size 0)=some (pq b 0):=by rw [hcell w' h];exact hp0.cell rfl
  clear hcell
  go_simp)
 have R1:=AC (show ∀w':World,w'.heap=W0.heap->(Instr.loadAt 9 (pq w.heap.size 1)).run Tryz.prog w'= .ok (.string name) w' from fun w' h=>by
  have c:w'.cell? (pK w.heap.size 1)=some (.string name):=by rw [hcell w' h];exact hp0.cell rfl
  clear hcell
  go_simp)
 have R2:=AC (show ∀w':World,w'.heap=W0.heap->(Instr.loadAt 256 (pq b 3)).run Tryz.prog w'= .ok (.map (some m)) w' from fun w' h=>by
  have c:w'.cell? (pK b 3)=some (.map (some m)):=by rw [hcell w' h];exact hc0
  clear hcell
  go_simp)
 have R3:=AC (show ∀w':World,w'.heap=W0.heap->(Instr.lookup 256 (.map (some m)) (.string name) false).run Tryz.prog w'= .ok (CG (f name)) w' from fun w' h=>(hd0.heap h).look name hn)
 obtain ⟨V,hV⟩:∃V,V=CG (f name):=⟨_,rfl⟩
 rw [<-hV] at R3 ⊢
 have HB0:=AC hb0
 have HW0:=AC hW0
 clear hV hb0 hp0 hd0 hc0 hcell hW0 hc hd
 go_enter Tryz.func116,Tryz.ntmps116
 go_upto_region 1 with fail
 rw [<-AB HW0]
 refine BA ?_
 intro A hA
 have e1:A.eval (.tmp 1)= pq w.heap.size 0:=by rw [hA];rfl
 have esz:A.tmps.size=11:=by rw [hA];rfl
 have HA:=AC hA
 clear hA
 refine wp_region_held_drew (S:=fun w'=>w'.heap=W0.heap) (by kernel_rfl) rfl (fun hS=> ?_)
 refine tk 0 (some 3) rfl rfl (by kernel_rfl) (fun _ _ _=>id) (AO rfl _ _ _ rfl (pq w.heap.size 0) (by simp [AF,AE,esz,e1]) (pq w.heap.size 0) (fun w'=>by go_simp)) hS ?_
 refine tk 1 (some 4) rfl rfl (by kernel_rfl) (fun _ _ _=>id) (AQ rfl _ _ rfl (pK w.heap.size 0) (by simp [AF,AE,esz,e1]) (pq b 0) (AB R0)) hS ?_
 refine tk 2 (some 5) rfl rfl (by kernel_rfl) (fun _ _ _=>id) (AX rfl _ rfl (pK b 0) (by simp [AF,AE,esz,e1])) hS ?_
 refine tk 3 (some 6) rfl rfl (by kernel_rfl) (fun _ _ _=>id) (AO rfl _ _ _ rfl (pq b 0) (by simp [AF,AE,esz,e1]) (pq b 3) (fun w'=>by go_simp)) hS ?_
 refine tk 4 (some 7) rfl rfl (by kernel_rfl) (fun _ _ _=>id) (AQ rfl _ _ rfl (pK b 3) (by simp [AF,AE,esz,e1]) (.map (some m)) (AB R2)) hS ?_
 refine tk 5 (some 8) rfl rfl (by kernel_rfl) (fun _ _ _=>id) (AO rfl _ _ _ rfl (pq w.heap.size 0) (by simp [AF,AE,esz,e1]) (pq w.heap.size 1) (fun w'=>by go_simp)) hS ?_
 refine tk 6 (some 9) rfl rfl (by kernel_rfl) (fun _ _ _=>id) (AQ rfl _ _ rfl (pK w.heap.size 1) (by simp [AF,AE,esz,e1]) (.string name) (AB R1)) hS ?_
 refine tk 7 (some 10) rfl rfl (by kernel_rfl) (fun _ _ _=>id) (On rfl _ _ _ rfl (.map (some m)) (.string name) (by simp [AF,AE,esz,e1]) (by simp [AF,AE,esz,e1]) V (AB R3)) hS ?_
 refine tk 8 (some 2) rfl rfl (by kernel_rfl) (fun _ _ _=>id) (Bj rfl (v:=V) (fun w' _=>by simp only [execOp];simp [AF,AE,esz])) hS ?_
 refine wpAnyH_done (by kernel_rfl) ?_ _
 rw [AB HA]
 simp only [Act.put,zm,zi,zj]
 clear R0 R1 R2 R3 HA e1 esz hS
 go_wp2
 go_ret
 exact ⟨rfl,⟨(AB HB0).os,(AB HB0).tape,(AB HB0).output,(AB HB0).size,(AB HB0).block⟩⟩
theorem Kc (w:World):Calls Tryz.prog 64 #[] w fun e w'=>e= .returned (pq (w.heap.size+1) 0)/\AG w' (w.heap.size+1) 258 [.string ⟨#[]⟩,.bool true,.slice none 0 0,.map (some w.heap.size),.int .i64 0]/\Ao w' w.heap.size 0 (fun _=>none)/\Below w.heap.size w w':=by
 have hmm:= @run_makeMap Tryz.prog
 have HD:=AC (show Ao (w.alloc (.map #[] 0)) w.heap.size 0 (fun _=>none) from ⟨.map [],World.ownsMap_made w _ _ _,fun s=>rfl,fun kl h=>by cases h⟩)
 have HB:=AC (show Below w.heap.size w (w.alloc (.map #[] 0)) from (zw _ _).alloc (zx _) _)
 go_enter Tryz.func64,Tryz.ntmps64
 go_wp2
 go_ret
 refine ⟨rfl,?_,(AB HD).kept (row:=none) (World.grownBy_alloc _ _ _) (by simp),(AB HB).alloc (by simp) _⟩
 have h:=AG.new (w.alloc (.map #[] 0)) 258 [.string ⟨#[]⟩,.bool true,.slice none 0 0,.map (some w.heap.size),.int .i64 0]
 rwa [show (w.alloc (.map #[] 0)).heap.size=w.heap.size+1 from by simp] at h
theorem Lq (s:ByteArray) (w:World) (hs:s.size<=100000):Calls Tryz.prog 166 #[.string s] w fun e w'=>e= .returned (.string s)/\Below w.heap.size w w':=by
 have H:=AC (show Calls Tryz.prog 207 #[.string s] w fun e w'=>e= .returned (.string s)/\Below w.heap.size w w' from Go.Proofs.Any.stringslite_Clone eP s w (by omega))
 go_enter Tryz.func166,Tryz.ntmps166
 go_wp2_with fail
 refine (AB H).mono ?_
 rintro e w1 ⟨rfl,hb1⟩
 have HB:=AC hb1
 clear hb1 H
 go_wp2
 go_ret
 exact ⟨rfl,AB HB⟩
theorem DK {P:Program} {ops:Array Oper} {o:Oper} {a:Act} {w:World} {K:Act->World->Prop} {Q:Exit->Act->World->Prop} {E:Prop} (hgd:o.guard=none) (f n1:Nat) (t1:TypeId)
  (ho:o.op= .call {callee:= .value (.func f),args:=#[.tmp n1],argTypes:=#[t1]}) (v1:Value) (h1:a.eval (.tmp n1)=v1)
  (he:∀args w,(callFunc f args).run P w= .ok (.enter f args) w) (post:Ending->World->Prop) (r:Value) (hp:∀e w',post e w'->e= .returned r) (hc:Calls P f #[v1] w post) (d:Option Tmp) (hd:o.dst=d)
  (h:∀w',post (.returned r) w'->K (a.put d r) w'):
  if Region.wanted o (yielded ops a.tmps)=true then Oper.wp P o a w K Q else E:=by
 have hw:Region.wanted o (yielded ops a.tmps)=true:=by simp [Region.wanted,hgd]
 have h1':a.tmps[n1]?.getD undef=v1:=by rw [<-h1];simp [go_sem]
 rw [if_pos hw]
 subst hd
 unfold Oper.wp
 simp [execOp,ho,resolve,invoke,h1',Result.andThen,go_sem,he]
 refine hc.mono ?_
 intro e w' hpe
 obtain rfl:=hp e w' hpe
 have:=h w' hpe
 simpa [go_sem] using this
theorem Uu:∀args w,(callFunc 166 args).run Tryz.prog w= .ok (.enter 166 args) w:=enters_of Tryz.func166 (by kernel_rfl) rfl
theorem Sn {P:Program} {ops:Array Oper} {o:Oper} {a:Act} {w w':World} {K:Act->World->Prop} {Q:Exit->Act->World->Prop} {E:Prop} (hgd:o.guard=none) (t:TypeId) (m x v:Operand) (ho:o.op= .mapUpdate t m x v) (vm vx vv:Value) (hm:a.eval m=vm) (hx:a.eval x=vx) (hv:a.eval v=vv) (hrun:(Instr.mapUpdate t vm vx vv).run P w= .ok () w') (hd:o.dst=none) (h:K a w'):
  if Region.wanted o (yielded ops a.tmps)=true then Oper.wp P o a w K Q else E:=by
 have hw:Region.wanted o (yielded ops a.tmps)=true:=by simp [Region.wanted,hgd]
 rw [if_pos hw]
 unfold Oper.wp execOp
 simp only [ho,hm,hx,hv,Sem.run_bind,hrun,yk,Sem.run_pure]
 rw [Oper.upon_skip,hd]
 exact h
theorem Qf {P:Program} {md:Region.Mode} {ops:Array Oper} {Q:Exit->Act->World->Prop} {S:World->Prop} {fuel:Nat} {listed:Array Bool} {a:Act} {w w':World} {i:Nat} {o:Oper} {rs:List Nat} (hi:ops[i]? =some o) (hgd:o.guard=none) (t:TypeId) (m x v:Operand) (ho:o.op= .mapUpdate t m x v) (vm vx vv:Value) (hm:a.eval m=vm) (hx:a.eval x=vx) (hv:a.eval v=vv) (hrun:(Instr.mapUpdate t vm vx vv).run P w= .ok () w') (hd:o.dst=none) (hS:S w') (h:wpAnyH P md ops Q S fuel (listed.setIfInBounds i true) a w') (hs:AllReadyH P md ops Q S fuel listed a w rs):
  AllReadyH P md ops Q S fuel listed a w (i::rs):=
 AllReadyH.cons hi (fun K hK=>Sn hgd t m x v ho vm vx vv hm hx hv hrun hd (hK.out _ _ hS (fun _=>h))) hs
theorem ct {s t:ByteArray} (h:s.data.toList≠t.data.toList):(Lit.string s.data.toList)≠(Lit.string t.data.toList):=fun e=>h (by injection e)
theorem Ao.put {w:World} {m n:Nat} {f:ByteArray->Option Nat} (h:Ao w m n f) (hn:n<maxLen) (name:ByteArray) (hs:name.size<=maxLen) (b:Nat):
  ∃w',(Instr.mapUpdate 256 (.map (some m)) (.string name) (pq b 0)).run Tryz.prog w= .ok () w'/\Ao w' m (n+1) (fun s=>if s.data.toList=name.data.toList then some b else f s)/\w.grownBy w' (some m):=by
 obtain ⟨D,hD,hf,hkeys⟩:=h
 have hkey:=Go.WideMaps.keyOf_string_mk (P:=Tryz.prog) Tryz.underlying9 hs
 obtain ⟨w',hrun,hD',hg⟩:=hD.update Ip Tryz.underlying256 hn hkey (show CQ (pq b 0)=some (.lit (.int .i64 b),[]) from rfl)
 refine ⟨w',hrun,⟨_,hD',fun s=> ?_,fun kl hkl=> ?_⟩,hg⟩
 rotate_left
 ·by_cases e:kl= .string name.data.toList
  ·exact ⟨name,b,e,if_pos rfl⟩
  ·rw [Maps.has_put_other e] at hkl
   obtain ⟨s,c,h1,h2⟩:=hkeys kl hkl
   refine ⟨s,c,h1,?_⟩
   show (if s.data.toList=name.data.toList then some b else f s)=some c
   rw [if_neg (fun q=>e (by rw [h1,q])),h2]
 show _=Em (if s.data.toList=name.data.toList then some b else f s)
 by_cases e:s.data.toList=name.data.toList
 ·rw [if_pos e,e,Maps.atKey_put_same hD.isMap (Ip.key hkey)]
  rfl
 ·rw [if_neg e,Maps.atKey_put_other (ct e)]
  exact hf s
theorem Ce {w:World} {m n b:Nat} {f:ByteArray->Option Nat} {t:TypeId} {vs:List Value} (h:Ao w m n f) (hh:AG w b t vs):b≠m:=by
 intro e
 subst e
 obtain ⟨D,⟨es,clock,hb,_⟩,_⟩:=h
 unfold AG at hh
 rw [hb] at hh
 cases hh
def Qg (tb m k ab:Nat) (n li used lb:Int) (f:ByteArray->Option Nat) (name:ByteArray) (b:Nat) (w w':World):Prop:=
 AG w' tb 175 [pq ab 0,.int .i64 (n+1),.int .i64 li,.int .i64 used,.int .i64 lb]/\Ao w' m (k+1) (fun s=>if s.data.toList=name.data.toList then some b else f s)/\Al w w' tb m
structure Bk (w w':World) (S:List Nat):Prop where
 os:w'.os=w.os
 tape:w'.tape=w.tape
 output:w'.output=w.output
 size:w.heap.size<=w'.heap.size
 block:∀k,k<w.heap.size->k∉S->w'.heap[k]? =w.heap[k]?
theorem Bk.refl (w:World) (S:List Nat):Bk w w S:=⟨rfl,rfl,rfl,zx _,fun _ _ _=>rfl⟩
theorem Bk.trans {a b c:World} {S:List Nat} (h:Bk a b S) (k:Bk b c S):Bk a c S:=⟨k.os.trans h.os,k.tape.trans h.tape,k.output.trans h.output,zh h.size k.size,fun i hi hn=>(k.block i (za hi h.size) hn).trans (h.block i hi hn)⟩
theorem Bk.grown {a b c:World} {S:List Nat} {r:Option Nat} (h:Bk a b S) (k:b.grownBy c r) (hr:∀x,r=some x->x∈S\/a.heap.size<=x):Bk a c S:=⟨k.os.trans h.os,k.tape.trans h.tape,k.output.trans h.output,zh h.size k.size,fun i hi hn=>(k.block i (za hi h.size) (fun e=>by rcases hr i e.symm with q|q;exact hn q;omega)).trans (h.block i hi hn)⟩
theorem Bk.ofK {w w':World} {a b:Nat} (h:Al w w' a b):Bk w w' [a,b]:=⟨h.os,h.tape,h.output,h.size,fun k hk hn=>h.block k hk (fun e=>hn (by simp [e])) (fun e=>hn (by simp [e]))⟩
theorem Bk.ofBelow {w w':World} {S:List Nat} (h:Below w.heap.size w w'):Bk w w' S:=⟨h.os,h.tape,h.output,h.size,fun k hk _=>h.block k hk⟩
theorem Bk.mono {w w':World} {S T:List Nat} (h:Bk w w' S) (hs:∀x∈S,x∈T\/w.heap.size<=x):Bk w w' T:=⟨h.os,h.tape,h.output,h.size,fun k hk hn=>h.block k hk (fun e=>by rcases hs k e with q|q;exact hn q;omega)⟩
theorem Bk.below {w w':World} {S:List Nat} {B:Nat} (h:Bk w w' S) (hs:∀x∈S,B<=x) (hB:B<=w.heap.size):Below B w w':=⟨h.os,h.tape,h.output,h.size,fun k hk=>h.block k (by omega) (fun e=>by have:=hs k e;omega)⟩
theorem Bk.toK {a b c:World} {t m n:Nat} (h:Below a.heap.size a b) (k:Bk b c [t,m,n]) (hn:a.heap.size<=n):Al a c t m:=
 ⟨k.os.trans h.os,k.tape.trans h.tape,k.output.trans h.output,zh h.size k.size,fun i hi h1 h2=>(k.block i (by have:=h.size;omega) (by simp;omega)).trans (h.block i hi)⟩
theorem Ab {w w':World} {b:Nat} {t:TypeId} {vs:List Value} (h:AG w b t vs) (hh:w'.heap[b]? =w.heap[b]?):AG w' b t vs:=by
 unfold AG at h ⊢
 rw [hh];exact h
theorem Aw {w:World} {a b:Nat} {s t:TypeId} {us vs:List Value} (h:AG w a s us) (h':AG w b t vs) (hne:s≠t):a≠b:=by
 intro e
 subst e
 unfold AG at h h'
 rw [h] at h'
 injection h' with h'
 injection h' with _ h'
 exact hne h'
def Zt (tb m k ab:Nat) (n li used lb:Int) (f:ByteArray->Option Nat) (name pth:ByteArray) (b:Nat) (bvs:List Value) (w w':World):Prop:=
 AG w' tb 175 [pq ab 0,.int .i64 (n+1),.int .i64 li,.int .i64 used,.int .i64 lb]/\Ao w' m (k+1) (fun s=>if s.data.toList=name.data.toList then some b else f s)/\AG w' b 258 (.string pth::bvs)/\Bk w w' [tb,m,b]
def So (P d m:Nat) (name pth:ByteArray) (w:World):Prop:=w.cell? (pK P 0)=some (pq d 0)/\w.cell? (pK P 1)=some (.string name)/\w.cell? (pK P 2)=some (.string pth)/\w.cell? (pK d 3)=some (.map (some m))
theorem So.grown {P d m:Nat} {name pth:ByteArray} {w w':World} {r:Option Nat} (h:So P d m name pth w) (hg:w.grownBy w' r) (h1:some P≠r) (h2:some d≠r):So P d m name pth w':=
 ⟨hg.cell h.1 h1,hg.cell h.2.1 h1,hg.cell h.2.2.1 h1,hg.cell h.2.2.2 h2⟩
theorem Pm (tb ab d m k b:Nat) (n li used lb:Int) (f:ByteArray->Option Nat) (name pth q0:ByteArray) (bvs:List Value) (w:World) (ht:AG w tb 175 [pq ab 0,.int .i64 n,.int .i64 li,.int .i64 used,.int .i64 lb]) (hn:0<=n/\n<=1000000) (hd:Ao w m k f) (hk:k<=1000000) (tn:TypeId) (dvs:List Value) (hdn:AG w d tn dvs) (hd2:dvs[3]? =some (.map (some m))) (hdt:d≠tb) (hbn:AG w b 258 (.string q0::bvs)) (hbd:b≠d) (hs:name.size<=100000) (hps:pth.size<=100000):
  Calls Tryz.prog 118 #[pq tb 0,.agg #[pq d 0,.string name,.string pth],pq b 0] w fun e w'=>e= .returned (.tuple #[])/\Zt tb m k ab n li used lb f name pth b bvs w w':=by
 have htl:=ht.lt
 have hdl:=hdn.lt
 have hbl:=hbn.lt
 have hbt:b≠tb:=Aw hbn ht (by decide)
 obtain ⟨W0,hW0⟩:∃W0,W0=w.alloc (Obj.cells #[pq d 0,.string name,.string pth] 178):=⟨_,rfl⟩
 have hp0:AG W0 w.heap.size 178 [pq d 0,.string name,.string pth]:=by rw [hW0];exact AG.new w 178 _
 have ht0:AG W0 tb 175 [pq ab 0,.int .i64 n,.int .i64 li,.int .i64 used,.int .i64 lb]:=by rw [hW0];exact ht.alloc _
 obtain ⟨W1,hW1⟩:∃W1,W1=W0.setCell (pK tb 1) (.int .i64 (n+1)):=⟨_,rfl⟩
 have c1:W0.cell? (pK tb 1)=some (.int .i64 n):=ht0.cell rfl
 have f1:=ht0.frozen 1
 have hdm:Ao W1 m k f:=by
  rw [hW1,hW0]
  have h1:Ao (w.alloc (Obj.cells #[pq d 0,.string name,.string pth] 178)) m k f:=hd.kept (row:=none) (World.grownBy_alloc _ _ _) (by simp)
  exact h1.kept (AS (zk _ (some tb)) 1 _) (by simp;exact fun e=>Ce hd ht e.symm)
 have hp1:AG W1 w.heap.size 178 [pq d 0,.string name,.string pth]:=by rw [hW1];exact hp0.set_other (by omega) 1 _
 have ht1:AG W1 tb 175 [pq ab 0,.int .i64 (n+1),.int .i64 li,.int .i64 used,.int .i64 lb]:=by rw [hW1];exact ht0.set 1 _
 have hdn1:AG W1 d tn dvs:=by rw [hW1,hW0];exact (hdn.alloc _).set_other hdt 1 _
 have hbn1:AG W1 b 258 (.string q0::bvs):=by rw [hW1,hW0];exact (hbn.alloc _).set_other hbt 1 _
 have hfr:Bk w W1 [tb,m,b]:=by
  rw [hW1,hW0]
  have hg:=AS (w:=w) (wr:=w.alloc (Obj.cells #[pq d 0,.string name,.string pth] 178)) (World.grownBy_alloc _ _ (some tb)) 1 (.int .i64 (n+1))
  exact (Bk.refl w _).grown hg (fun x hx=> .inl (by simp at hx;simp [hx]))
 have hnm:w.heap.size≠m:=Ce hdm hp1
 have htm:tb≠m:=Ce hdm ht1
 have hdm2:d≠m:=Ce hdm hdn1
 have hbm:b≠m:=Ce hdm hbn1
 have hS1:So w.heap.size d m name pth W1:=⟨hp1.cell rfl,hp1.cell rfl,hp1.cell rfl,hdn1.cell hd2⟩
 have R0:=AC (show ∀w':World,So w.heap.size d m name pth w'->(Instr.loadAt 172 (pq w.heap.size 0)).run Tryz.prog w'= .ok (pq d 0) w' from fun w' h=>by
  have c:=h.1
  clear hS1
  go_simp)
 have R1:=AC (show ∀w':World,So w.heap.size d m name pth w'->(Instr.loadAt 9 (pq w.heap.size 1)).run Tryz.prog w'= .ok (.string name) w' from fun w' h=>by
  have c:=h.2.1
  clear hS1
  go_simp)
 have R2:=AC (show ∀w':World,So w.heap.size d m name pth w'->(Instr.loadAt 256 (pq d 3)).run Tryz.prog w'= .ok (.map (some m)) w' from fun w' h=>by
  have c:=h.2.2.2
  clear hS1
  go_simp)
 have HCL:=AC (Lq pth W1 hps)
 have HW0:=AC hW0
 have HW1:=AC hW1
 have HDM:=AC hdm
 have HT1:=AC ht1
 have HBN:=AC hbn1
 have HFR:=AC hfr
 have HS1:=AC hS1
 have hn1:n+1<=1000001:=by omega
 have hbw:b≠w.heap.size:=by omega
 clear hW0 hW1 hp0 ht0 hdm hp1 ht1 hdn1 hbn1 hfr hd ht hdn hbn hd2 hS1
 go_enter Tryz.func118,Tryz.ntmps118
 go_upto_region 1 with fail
 rw [<-AB HW0]
 go_upto_region 2 with fail
 rw [<-AB HW1]
 clear c1 f1
 have c2:W1.cell? (pK w.heap.size 2)=some (.string pth):=(AB HS1).2.2.1
 go_wp2_with fail
 refine (AB HCL).mono ?_
 rintro e w2 ⟨rfl,hb2⟩
 have hg2:W1.grownBy w2 none:=⟨hb2.os,hb2.tape,hb2.output,hb2.size,fun q hq _=>hb2.block q hq⟩
 have hS2:=(AB HS1).grown hg2 (by simp) (by simp)
 have hbn2:=(AB HBN).grown hg2 (by simp)
 have x5:w2.cell? (pK b 0)=some (.string q0):=hbn2.cell rfl
 have y5:=hbn2.frozen 0
 obtain ⟨W3,hW3⟩:∃W3,W3=w2.setCell (pK b 0) (.string pth):=⟨_,rfl⟩
 have hg3:w2.grownBy W3 (some b):=by rw [hW3];exact AS (zk _ _) 0 _
 have hS3:=hS2.grown hg3 (by simpa using hbw.symm) (by simpa using hbd.symm)
 have HBN3:=AC (show AG W3 b 258 (.string pth::bvs) from by rw [hW3];exact hbn2.set 0 _)
 have HT3:=AC (((AB HT1).grown hg2 (by simp)).grown hg3 (by simpa using hbt.symm))
 have HDM3:=AC (((AB HDM).kept hg2 (by simp)).kept hg3 (by simpa using hbm.symm))
 have HFR3:=AC (((AB HFR).grown hg2 (fun x hx=>by cases hx)).grown hg3 (fun x hx=> .inl (by simp at hx;simp [hx])))
 have HS3:=AC hS3
 have HCL3:=AC (Lq name W3.drew hs)
 have HW3:=AC hW3
 clear hg2 hg3 hS2 hS3 hb2 hbn2 HCL hW3 HT1 HDM HBN HFR HS1 c2
 go_upto_region 3 with fail
 rw [<-AB HW3]
 clear HW3 x5 y5
 refine BA ?_
 intro A hA
 have e2:A.eval (.tmp 2)= pq b 0:=by rw [hA];rfl
 have e4:A.eval (.tmp 4)= pq w.heap.size 0:=by rw [hA];rfl
 have esz:A.tmps.size=28:=by rw [hA];rfl
 have HA:=AC hA
 clear hA
 refine wp_region_held_drew (S:=So w.heap.size d m name pth) (by kernel_rfl) (AB HS3) (fun hS=> ?_)
 refine tk 0 (some 19) rfl rfl (by kernel_rfl) (fun _ _ _=>id) (AO rfl _ _ _ rfl (pq w.heap.size 0) (by simp [AF,AE,esz,e2,e4]) (pq w.heap.size 0) (fun w'=>by go_simp)) hS ?_
 refine tk 1 (some 20) rfl rfl (by kernel_rfl) (fun _ _ _=>id) (AQ rfl _ _ rfl (pK w.heap.size 0) (by simp [AF,AE,esz,e2,e4]) (pq d 0) (AB R0)) hS ?_
 refine tk 2 (some 21) rfl rfl (by kernel_rfl) (fun _ _ _=>id) (AX rfl _ rfl (pK d 0) (by simp [AF,AE,esz,e2,e4])) hS ?_
 refine tk 3 (some 22) rfl rfl (by kernel_rfl) (fun _ _ _=>id) (AO rfl _ _ _ rfl (pq d 0) (by simp [AF,AE,esz,e2,e4]) (pq d 3) (fun w'=>by go_simp)) hS ?_
 refine tk 4 (some 23) rfl rfl (by kernel_rfl) (fun _ _ _=>id) (AQ rfl _ _ rfl (pK d 3) (by simp [AF,AE,esz,e2,e4]) (.map (some m)) (AB R2)) hS ?_
 refine tk 5 (some 24) rfl rfl (by kernel_rfl) (fun _ _ _=>id) (AO rfl _ _ _ rfl (pq w.heap.size 0) (by simp [AF,AE,esz,e2,e4]) (pq w.heap.size 1) (fun w'=>by go_simp)) hS ?_
 refine tk 6 (some 25) rfl rfl (by kernel_rfl) (fun _ _ _=>id) (AQ rfl _ _ rfl (pK w.heap.size 1) (by simp [AF,AE,esz,e2,e4]) (.string name) (AB R1)) hS ?_
 refine tk 8 (some 27) rfl rfl (by kernel_rfl) (fun _ _ _=>id) (AK rfl _ rfl (pq b 0) (by simp [AF,AE,esz,e2,e4])) hS ?_
 refine rdy [7] (by kernel_rfl) (AllReadyH.cons rfl (fun K hK=> ?_) AllReadyH.nil)
 refine DK rfl 166 25 _ rfl (.string name) (by simp [AF,AE,esz,e2,e4]) Uu _ (.string name) (fun e w' h=>h.1) (AB HCL3) (some 26) rfl ?_
 rintro w4 ⟨_,hb4⟩
 have hg4:W3.grownBy w4 none:=⟨hb4.os,hb4.tape,hb4.output,hb4.size,fun q hq _=>hb4.block q hq⟩
 have hS4:=(AB HS3).grown hg4 (by simp) (by simp)
 refine hK.out _ _ hS4 (fun _=> ?_)
 clear hK K
 obtain ⟨w5,hrun,hd5,hg5⟩:=((AB HDM3).kept hg4 (by simp)).put (by unfold maxLen;omega) name (by unfold maxLen;omega) b
 have g17:(((((((((A.put (some 19) (pq w.heap.size 0)).put (some 20) (pq d 0)).put (some 21) (pq d 0)).put (some 22) (pq d 3)).put (some 23) (.map (some m))).put (some 24) (pq w.heap.size 1)).put (some 25) (.string name)).put (some 27) (pq b 0)).put (some 26) (.string name)).eval (.tmp 23)= .map (some m):=by simp [AF,AE,esz,e2,e4]
 have g20:(((((((((A.put (some 19) (pq w.heap.size 0)).put (some 20) (pq d 0)).put (some 21) (pq d 0)).put (some 22) (pq d 3)).put (some 23) (.map (some m))).put (some 24) (pq w.heap.size 1)).put (some 25) (.string name)).put (some 27) (pq b 0)).put (some 26) (.string name)).eval (.tmp 26)= .string name:=by simp [AF,AE,esz,e2,e4]
 have g21:(((((((((A.put (some 19) (pq w.heap.size 0)).put (some 20) (pq d 0)).put (some 21) (pq d 0)).put (some 22) (pq d 3)).put (some 23) (.map (some m))).put (some 24) (pq w.heap.size 1)).put (some 25) (.string name)).put (some 27) (pq b 0)).put (some 26) (.string name)).eval (.tmp 27)= pq b 0:=by simp [AF,AE,esz,e2,e4]
 refine rdy [9] (by kernel_rfl) ?_
 refine Qf (w':=w5) rfl rfl 256 (.tmp 23) (.tmp 26) (.tmp 27) rfl (.map (some m)) (.string name) (pq b 0) g17 g20 g21 hrun rfl (hS4.grown hg5 (by simpa using hnm) (by simpa using hdm2)) ?_ AllReadyH.nil
 refine wpAnyH_done (by kernel_rfl) ?_ _
 have HP:=AC (show Zt tb m k ab n li used lb f name pth b bvs w w5 from ⟨((AB HT3).grown hg4 (by simp)).grown hg5 (by simpa using htm),hd5,((AB HBN3).grown hg4 (by simp)).grown hg5 (by simpa using hbm),((AB HFR3).grown hg4 (fun x hx=>by cases hx)).grown hg5 (fun x hx=> .inl (by simp at hx;simp [hx]))⟩)
 rw [AB HA]
 simp only [Act.put,zm,zi,zj]
 clear hg4 hd5 hg5 hrun hS4 hb4 HA e2 e4 esz hS R0 R1 R2 HCL3
 go_wp2
 go_end0
 exact ⟨rfl,AB HP⟩
theorem Ao.block {w w':World} {m n:Nat} {f:ByteArray->Option Nat} (h:Ao w m n f) (hh:w'.heap[m]? =w.heap[m]?):Ao w' m n f:=by
 obtain ⟨D,⟨es,clock,hb,F,hs,hD⟩,hf⟩:=h
 exact ⟨D,⟨es,clock,by rw [hh];exact hb,F,hs,hD⟩,hf⟩
theorem Ao.lt {w:World} {m n:Nat} {f:ByteArray->Option Nat} (h:Ao w m n f):m<w.heap.size:=by obtain ⟨D,hD,_⟩:=h;exact hD.lt
theorem Ao.mono {w:World} {m n n':Nat} {f:ByteArray->Option Nat} (h:Ao w m n f) (hn:n<=n'):Ao w m n' f:=by obtain ⟨D,hD,hf⟩:=h;exact ⟨D,hD.mono hn,hf⟩
theorem Ao.same {w:World} {m n:Nat} {f g:ByteArray->Option Nat} (h:Ao w m n f) (hg:∀s,g s=f s):Ao w m n g:=by
 have:g=f:=funext hg
 rw [this];exact h
theorem K9 {xs:List Ino} {NB:List Nat} {nx:Ino} {nb:Nat} (hl:NB.length=xs.length) (d:Int) (name:ByteArray):D4 (xs++[nx]) (NB++[nb]) d name=match D4 xs NB d name with|some b=>some b|none=>if Az d name nx=true then some nb else none:=by
 unfold D4
 rw [List.findIdx?_append]
 cases hf:xs.findIdx? (Az d name) with
 |some i=>
  obtain ⟨hi,_,_⟩:=List.findIdx?_eq_some_iff_getElem.1 hf
  have hib:i<NB.length:=by omega
  simp only [Option.some_or]
  rw [zp hib,zz hib]
 |none=>
  simp only [Option.none_or]
  by_cases hc:Az d name nx=true
  ·rw [if_pos hc,List.findIdx?_cons,hc]
   simp [<-hl]
  ·rw [if_neg hc,List.findIdx?_cons]
   simp [hc]
theorem Xs (d id:Int) (s name:ByteArray) (is:Bool):Az d s (Bh id d name is)=decide (s.data.toList=name.data.toList):=by
 unfold Az Bh
 show (d==d&&name.toList==s.toList)=_
 rw [beq_self_eq_true,Bool.true_and,ByteArray.toList_eq,ByteArray.toList_eq]
 by_cases e:s.data.toList=name.data.toList
 ·rw [decide_eq_true e,e];simp
 ·rw [decide_eq_false e];simp;exact fun h=>e (by rw [h])
theorem NV {d e id:Int} {s name:ByteArray} {is:Bool} (h:e≠d):Az d s (Bh id e name is)=false:=by
 unfold Az Bh
 show (e==d&&_)=false
 rw [show (e==d)=false from by simpa using h,Bool.false_and]
theorem NW {s t:ByteArray} (h:s.data.toList=t.data.toList):s=t:=by
 cases s with|mk a=>cases t with|mk b=>
 congr 1
 exact Array.toList_inj.1 h
theorem Ba.added {w w':World} {B tb ab am:Nat} {li lb used:Int} {xs:List Ino} {NB MB:List Nat} {V:List Value} (h:Ba w B tb ab am li lb used xs NB MB V) {pi pm nb nm:Nat} {px:Ino} {name:ByteArray} {dir:Bool} {v mv:Value} {id:Int}
  (hp:xs[pi]? =some px) (hpd:px.dir=true) (hpm:MB[pi]? =some pm) (hinc:xs.Pairwise (fun x y=>x.id<y.id)) (hc:D4 xs NB px.id name=none)
  (ht:AG w' tb 175 [pq ab 0,.int .i64 ((xs.length:Int)+1),.int .i64 li,.int .i64 used,.int .i64 lb])
  (hd:Ao w' pm (xs.length+1) (fun s=>if s.data.toList=name.data.toList then some nb else D4 xs NB px.id s))
  (hn:∃q,AG w' nb 258 [.string q,.bool dir,v,mv,.int .i64 0])
  (hnd:dir=true->mv= .map (some nm)/\Ao w' nm 0 (fun _=>none)) (hnf:dir=false->mv= .map none)
  (hnb:w.heap.size<=nb) (hnm:w.heap.size<=nm) (hnl:nm<w'.heap.size) (hf:Al w w' tb pm) (hpar:∀x∈xs,x.parent≠id) (hpid:px.id≠id) (hB:B<=w.heap.size):
  Ba w' B tb ab am li lb used (xs++[Bh id px.id name dir]) (NB++[nb]) (MB++[nm]) (V++[v]):=by
 obtain ⟨hpl,hpx⟩:=zy.1 hp
 have hl1:=h.len.1
 have hl2:=h.len.2
 have hl3:=h.vlen
 have hpmm:pm∈MB:=zv hpm
 have hnode0:∀(i:Nat) (x:Ino) (b m:Nat),xs[i]? =some x->NB[i]? =some b->MB[i]? =some m->∃qn v mv,AG w' b 258 [.string qn,.bool x.dir,v,mv,.int .i64 0]/\(x.dir=true->mv= .map (some m)/\(i≠pi->Ao w' m xs.length (D4 xs NB x.id)))/\V[i]? =some v/\(x.dir=false->mv= .map none):=by
  intro i x b m hx hb hm
  obtain ⟨qn,v1,mv1,h1,h2,h3⟩:=h.node i x b m hx hb hm
  obtain ⟨pb,hpb⟩:∃pb,NB[pi]? =some pb:=⟨_,zz (by omega)⟩
  obtain ⟨_,v2,mv2,_,h5,_⟩:=h.node pi px pb pm hp hpb hpm
  have hdp:=(h5 hpd).2
  refine ⟨qn,v1,mv1,Ab h1 (hf.block b h1.lt (Aw h1 h.tree (by decide)) (Ce hdp h1)),fun hxd=>⟨(h2 hxd).1,fun hne=>(h2 hxd).2.block (hf.block m (h2 hxd).2.lt (fun e=>Ce (h2 hxd).2 h.tree e.symm) (fun e=> ?_))⟩,h3⟩
  subst e
  obtain ⟨hi1,hi2⟩:=zy.1 hm
  obtain ⟨hj1,hj2⟩:=zy.1 hpm
  exact hne ((List.getElem_inj h.apart.1).1 (hi2.trans hj2.symm))
 have hdp0:Ao w pm xs.length (D4 xs NB px.id):=by
  obtain ⟨pb,hpb⟩:∃pb,NB[pi]? =some pb:=⟨_,zz (by omega)⟩
  obtain ⟨_,v2,mv2,_,h5,_⟩:=h.node pi px pb pm hp hpb hpm
  exact (h5 hpd).2
 have hne:xs≠[]:=by intro e;rw [e] at hpl;simp at hpl
 refine ⟨?_,?_,?_,?_,?_,?_,?_,?_,?_⟩
 ·rw [zn];simpa using ht
 ·exact Ab h.above (hf.block ab h.above.lt (Aw h.above h.tree (by decide)) (Ce hdp0 h.above))
 ·refine (h.amap.block (hf.block am h.amap.lt (fun e=>Ce h.amap h.tree e.symm) (fun e=>h.apart.2.1 (e▸hpmm)))).same fun s=> ?_
  rw [zp (by omega)]
 ·simp [hl1,hl2]
 ·intro i x b m hx hb hm
  by_cases hi:i<xs.length
  ·rw [zp hi] at hx
   rw [zp (by omega)] at hb hm
   obtain ⟨qn,v1,mv1,h1,h2,h3⟩:=hnode0 i x b m hx hb hm
   refine ⟨qn,v1,mv1,h1,fun hxd=>⟨(h2 hxd).1,?_⟩,by rw [zp (by omega)];exact h3.1,h3.2⟩
   rw [zn]
   by_cases hip:i=pi
   ·subst hip
    rw [hp] at hx
    obtain rfl:=zr hx
    rw [hpm] at hm
    obtain rfl:=zr hm
    refine hd.same fun s=> ?_
    rw [K9 hl1,Xs]
    by_cases e:s.data.toList=name.data.toList
    ·obtain rfl:=NW e
     rw [hc];simp
    ·rw [if_neg e]
     cases hk:D4 xs NB px.id s with
     |some b=>rfl
     |none=>simp [e]
   ·refine (((h2 hxd).2 hip).mono (by omega)).same fun s=> ?_
    have hid:px.id≠x.id:=by
     intro e
     obtain ⟨hi1,hi2⟩:=zy.1 hx
     have hpw:=List.pairwise_iff_getElem.1 hinc
     rcases Nat.lt_trichotomy i pi with q|q|q
     ·have:=hpw i pi hi1 hpl q;rw [hi2,hpx] at this;omega
     ·exact hip q
     ·have:=hpw pi i hpl hi1 q;rw [hi2,hpx] at this;omega
    rw [K9 hl1,NV hid]
    cases D4 xs NB x.id s with
    |some b=>rfl
    |none=>rfl
  ·have hi2:=(zy.1 hx).1
   rw [zn] at hi2
   have hie:i=xs.length:=by simp at hi2;omega
   subst hie
   rw [zo (by omega)] at hx hb hm
   simp [hl1] at hb
   simp [hl2] at hm
   simp at hx
   subst hx hb hm
   obtain ⟨qn,hn⟩:=hn
   refine ⟨qn,v,mv,hn,fun hxd=>⟨(hnd hxd).1,((hnd hxd).2.mono (by omega)).same fun s=> ?_⟩,by rw [zo (by omega)];simp [hl3],fun q=>hnf q⟩
   show D4 _ _ id s=none
   rw [K9 hl1,NV hpid]
   have:xs.findIdx? (Az id s)=none:=by
    rw [List.findIdx?_eq_none_iff]
    intro x hx
    unfold Az
    rw [show (x.parent==id)=false from by simpa using hpar x hx,Bool.false_and]
   unfold D4
   rw [this]
   rfl
 ·intro _
  obtain ⟨x,hx,h1,h2⟩:=h.root hne
  exact ⟨x,by rw [zp (by omega)];exact hx,h1,h2⟩
 ·simp [hl3]
 ·have hlow:=h.low
  refine ⟨?_,?_,?_,?_⟩
  ·rw [List.nodup_append]
   exact ⟨h.apart.1,by simp,fun a ha b hb=>by simp at hb;have:=(hlow.2.2.2.2 a ha).2;omega⟩
  ·rw [List.mem_append]
   rintro (q|q)
   ·exact h.apart.2.1 q
   ·simp at q;have:=h.amap.lt;omega
  ·rw [List.nodup_append]
   refine ⟨h.apart.2.2.1,by simp,fun a ha b hb=> ?_⟩
   simp at hb
   obtain ⟨j,hj,hja⟩:=List.mem_iff_getElem.1 ha
   obtain ⟨qn,_,_,q,_⟩:=h.node j xs[j] NB[j] MB[j] (zz (by omega)) (zz hj) (zz (by omega))
   have:=q.lt
   omega
  ·rw [List.mem_append]
   rintro (q|q)
   ·exact h.apart.2.2.2 q
   ·simp at q;have:=h.above.lt;omega
 ·have hlow:=h.low
  have hsz:=hf.size
  refine ⟨hlow.1,hlow.2.1,hlow.2.2.1,fun b hb=> ?_,fun m hm=> ?_⟩
  ·rcases List.mem_append.1 hb with q|q
   ·exact hlow.2.2.2.1 b q
   ·simp at q;omega
  ·rcases List.mem_append.1 hm with q|q
   ·exact ⟨(hlow.2.2.2.2 m q).1,by have:=(hlow.2.2.2.2 m q).2;omega⟩
   ·simp at q;subst q;exact ⟨by omega,hnl⟩
def Br (c:Int):Ending:= .returned (.iface 47 (.int .i64 c))
def Sp (tb ab m k:Nat) (n li used lb:Int) (f:ByteArray->Option Nat) (name:ByteArray) (w:World) (e:Ending) (w':World):Prop:=
 (∃c,f name=some c)/\e=Br 10/\Below w.heap.size w w'\/f name=none/\li<=n/\e=Br 12/\Below w.heap.size w w'\/
  f name=none/\n<li/\e= .returned .nilIface/\∃nb nm,w.heap.size<=nb/\w.heap.size<=nm/\nm<w'.heap.size/\(∃q,AG w' nb 258 [.string q,.bool true,.slice none 0 0,.map (some nm),.int .i64 0])/\Ao w' nm 0 (fun _=>none)/\Qg tb m k ab n li used lb f name nb w w'
theorem Uv {P:Program} {ops:Array Oper} {o:Oper} {a:Act} {w:World} {K:Act->World->Prop} {Q:Exit->Act->World->Prop} {E:Prop} (hgd:o.guard=none) (f:Nat)
  (ho:o.op= .call {callee:= .value (.func f),args:=#[],argTypes:=#[]})
  (he:∀args w,(callFunc f args).run P w= .ok (.enter f args) w) (post:Ending->World->Prop) (r:Value) (hp:∀e w',post e w'->e= .returned r) (hc:Calls P f #[] w post) (d:Option Tmp) (hd:o.dst=d)
  (h:∀w',post (.returned r) w'->K (a.put d r) w'):
  if Region.wanted o (yielded ops a.tmps)=true then Oper.wp P o a w K Q else E:=by
 have hw:Region.wanted o (yielded ops a.tmps)=true:=by simp [Region.wanted,hgd]
 rw [if_pos hw]
 subst hd
 unfold Oper.wp
 simp [execOp,ho,resolve,invoke,Result.andThen,go_sem,he]
 refine hc.mono ?_
 intro e w' hpe
 obtain rfl:=hp e w' hpe
 have:=h w' hpe
 simpa [go_sem] using this
theorem Sq:∀args w,(callFunc 64 args).run Tryz.prog w= .ok (.enter 64 args) w:=enters_of Tryz.func64 (by kernel_rfl) rfl
theorem Zu:∀args w,(callFunc 118 args).run Tryz.prog w= .ok (.enter 118 args) w:=enters_of Tryz.func118 (by kernel_rfl) rfl
theorem Ju (tb ab b m k:Nat) (n li used lb:Int) (f:ByteArray->Option Nat) (name s:ByteArray) (dvs:List Value) (w:World) (ht:AG w tb 175 [pq ab 0,.int .i64 n,.int .i64 li,.int .i64 used,.int .i64 lb]) (hn:0<=n/\n<=1000000) (hli:0<=li/\li<=1000000) (hu:0<=used/\used<=lb) (hlb:lb<=1000000) (hps:s.size<=100000) (hdn:AG w b 258 dvs) (hd2:dvs[3]? =some (.map (some m))) (hd:Ao w m k f) (hk:k<=1000000) (hs:name.size<=100000)
  (HF:Calls Tryz.prog 66 #[pq tb 0,.string s] w fun e w1=>e=KZ b name s/\Below w.heap.size w w1):
  Calls Tryz.prog 65 #[pq tb 0,.string s] w (Sp tb ab m k n li used lb f name w):=by
 have HFW:=AC HF
 have HT:=AC ht
 have HDN:=AC hdn
 have HD:=AC hd
 have HD2:=AC hd2
 clear HF ht hdn hd hd2
 go_enter Tryz.func65,Tryz.ntmps65
 go_wp2_with fail
 refine (AB HFW).mono ?_
 rintro e w1 ⟨rfl,hb1⟩
 obtain ⟨W2,hW2⟩:∃W2,W2=w1.alloc (Obj.cells #[pq b 0,.string name,.string s] 178):=⟨_,rfl⟩
 have hb2:Below w.heap.size w W2:=by rw [hW2];exact hb1.alloc hb1.size _
 have hp2:AG W2 w1.heap.size 178 [pq b 0,.string name,.string s]:=by rw [hW2];exact AG.new w1 178 _
 have HW2:=AC hW2
 have HB2:=AC hb2
 have HP2:=AC hp2
 have hl1:=hb1.size
 obtain ⟨PB,hPB⟩:∃PB,PB=w1.heap.size:=⟨_,rfl⟩
 clear hW2 hb1 HFW hb2 hp2
 unfold KZ
 go_upto_region 2 with fail
 rw [<-AB HW2]
 rw [<-hPB] at HP2 hl1 ⊢
 clear HW2 hPB
 have c0:W2.cell? (pK PB 0)=some (pq b 0):=(AB HP2).cell rfl
 have c1:W2.cell? (pK PB 1)=some (.string name):=(AB HP2).cell rfl
 have c2:W2.cell? (pK PB 2)=some (.string s):=(AB HP2).cell rfl
 have hdn2:AG W2 b 258 dvs:=(AB HDN).below (AB HB2) (AB HDN).lt
 have hd2:Ao W2 m k f:=(AB HD).kept (row:=none) ⟨(AB HB2).os,(AB HB2).tape,(AB HB2).output,(AB HB2).size,fun k hk _=>(AB HB2).block k hk⟩ (by simp)
 have HND:=AC (Hz b m k name s f W2 (by unfold maxLen;omega) (hdn2.cell (AB HD2)) hd2)
 clear hdn2 hd2
 go_wp2_with fail
 refine (AB HND).mono ?_
 rintro e w3 ⟨rfl,hb3⟩
 have HB3:=AC ((AB HB2).trans (hb3.mono (AB HB2).size))
 have HP3:=AC ((AB HP2).below hb3 (AB HP2).lt)
 clear hb3 HND c0 c1 c2
 cases hfn:f name with
 |some c=>
  unfold CG
  have HFN:=AC hfn
  clear hfn
  go_wp2
  go_ret
  exact .inl ⟨⟨c,AB HFN⟩,rfl,AB HB3⟩
 |none=>
  unfold CG
  have HFN:=AC hfn
  clear hfn
  have HFL:=AC (Kb tb ab n li used lb w3 ((AB HT).below (AB HB3) (AB HT).lt) hn hli hu hlb)
  go_wp2_with fail
  refine (AB HFL).mono ?_
  rintro e w4 ⟨rfl,_,hb4⟩
  have HB4:=AC ((AB HB3).trans (hb4.mono (AB HB3).size))
  have HP4:=AC ((AB HP3).below hb4 (AB HP3).lt)
  clear hb4 HFL
  by_cases hfull:li<=n
  ·have HFU:=AC hfull
   rw [decide_eq_true hfull]
   clear hfull
   go_wp2
   go_ret
   exact .inr (.inl ⟨AB HFN,AB HFU,rfl,AB HB4⟩)
  ·have HFU:=AC (show n<li by omega)
   rw [decide_eq_false hfull]
   clear hfull
   go_upto_region 8 with fail
   have hS4:w4.cell? (pK PB 0)=some (pq b 0)/\w4.cell? (pK PB 1)=some (.string name)/\w4.cell? (pK PB 2)=some (.string s):=⟨(AB HP4).cell rfl,(AB HP4).cell rfl,(AB HP4).cell rfl⟩
   have R:=AC (show ∀w':World,(w'.cell? (pK PB 0)=some (pq b 0)/\w'.cell? (pK PB 1)=some (.string name)/\w'.cell? (pK PB 2)=some (.string s))->(Instr.loadAt 178 (pq PB 0)).run Tryz.prog w'= .ok (.agg #[pq b 0,.string name,.string s]) w' from fun w' h=>by
    have c:=h.1
    have d:=h.2.1
    have d':=h.2.2
    clear h hS4
    go_simp)
   have HND:=AC (show Calls Tryz.prog 64 #[] w4.drew fun e w'=>e= .returned (pq (w4.heap.size+1) 0)/\AG w' (w4.heap.size+1) 258 [.string ⟨#[]⟩,.bool true,.slice none 0 0,.map (some w4.heap.size),.int .i64 0]/\Ao w' w4.heap.size 0 (fun _=>none)/\Below w4.heap.size w4 w' from (Kc w4.drew).mono (fun e w' h=>⟨h.1,h.2.1,h.2.2.1,⟨h.2.2.2.os,h.2.2.2.tape,h.2.2.2.output,h.2.2.2.size,h.2.2.2.block⟩⟩))
   have HS4:=AC hS4
   have hl4:PB<w4.heap.size:=(AB HP4).lt
   clear hS4
   refine BA ?_
   intro A hA
   have e0:A.eval (.tmp 0)= pq tb 0:=by rw [hA];rfl
   have e5:A.eval (.tmp 5)= pq PB 0:=by rw [hA];rfl
   have esz:A.tmps.size=27:=by rw [hA];rfl
   have HA:=AC hA
   clear hA
   refine wp_region_held_drew (S:=fun w'=>w'.cell? (pK PB 0)=some (pq b 0)/\w'.cell? (pK PB 1)=some (.string name)/\w'.cell? (pK PB 2)=some (.string s)) (by kernel_rfl) (AB HS4) (fun hS=> ?_)
   refine tk 0 (some 23) rfl rfl (by kernel_rfl) (fun _ _ _=>id) (AK rfl _ rfl (pq tb 0) (by simp [AF,AE,esz,e0,e5])) hS ?_
   refine tk 1 (some 24) rfl rfl (by kernel_rfl) (fun _ _ _=>id) (AQ rfl _ _ rfl (pK PB 0) (by simp [AF,AE,esz,e0,e5]) (.agg #[pq b 0,.string name,.string s]) (AB R)) hS ?_
   refine rdy [2] (by kernel_rfl) (AllReadyH.cons rfl (fun K hK=> ?_) AllReadyH.nil)
   refine Uv rfl 64 rfl Sq _ (pq (w4.heap.size+1) 0) (fun e w' h=>h.1) (AB HND) (some 25) rfl ?_
   rintro w5 ⟨_,hn5,hm5,hb5⟩
   have hB5:=(AB HB4).trans (hb5.mono (AB HB4).size)
   refine hK.out _ _ ⟨by rw [hb5.cell (p:=(pK PB 0)) hl4];exact (AB HS4).1,by rw [hb5.cell (p:=(pK PB 1)) hl4];exact (AB HS4).2.1,by rw [hb5.cell (p:=(pK PB 2)) hl4];exact (AB HS4).2.2⟩ (fun _=> ?_)
   clear hK K
   have hd5:Ao w5 m k f:=(AB HD).kept (row:=none) ⟨hB5.os,hB5.tape,hB5.output,hB5.size,fun k hk _=>hB5.block k hk⟩ (by simp)
   have hdn5:AG w5 b 258 dvs:=(AB HDN).below hB5 (AB HDN).lt
   have ht5:=(AB HT).below hB5 (AB HT).lt
   have HPU:=AC (Pm tb ab b m k (w4.heap.size+1) n li used lb f name s _ _ w5 ht5 hn hd5 hk 258 dvs hdn5 (AB HD2) (Aw hdn5 ht5 (by decide)) hn5 (by have:=(AB HDN).lt;have:=(AB HB4).size;omega) hs hps)
   have g23:(((A.put (some 23) (pq tb 0)).put (some 24) (.agg #[pq b 0,.string name,.string s])).put (some 25) (pq (w4.heap.size+1) 0)).eval (.tmp 23)= pq tb 0:=by simp [AF,AE,esz,e0,e5]
   have g24:(((A.put (some 23) (pq tb 0)).put (some 24) (.agg #[pq b 0,.string name,.string s])).put (some 25) (pq (w4.heap.size+1) 0)).eval (.tmp 24)= .agg #[pq b 0,.string name,.string s]:=by simp [AF,AE,esz,e0,e5]
   have g25:(((A.put (some 23) (pq tb 0)).put (some 24) (.agg #[pq b 0,.string name,.string s])).put (some 25) (pq (w4.heap.size+1) 0)).eval (.tmp 25)= pq (w4.heap.size+1) 0:=by simp [AF,AE,esz,e0,e5]
   refine rdy [3] (by kernel_rfl) (AllReadyH.cons rfl (fun K hK=> ?_) AllReadyH.nil)
   refine NS rfl 118 23 24 25 _ _ _ rfl (pq tb 0) (.agg #[pq b 0,.string name,.string s]) (pq (w4.heap.size+1) 0) g23 g24 g25 Zu _ (.tuple #[]) (fun e w' h=>h.1) (AB HPU) (some 26) rfl ?_
   rintro w6 ⟨_,hp6⟩
   have hml:m<w.heap.size:=(AB HD).lt
   have htl:tb<w.heap.size:=(AB HT).lt
   have hsz4:=(AB HB4).size
   have hP5:AG w5 PB 178 [pq b 0,.string name,.string s]:=(AB HP4).below hb5 hl4
   have hP6:AG w6 PB 178 [pq b 0,.string name,.string s]:=Ab hP5 (hp6.2.2.2.block PB hP5.lt (by simp;omega))
   refine hK.out _ _ ⟨hP6.cell rfl,hP6.cell rfl,hP6.cell rfl⟩ (fun _=> ?_)
   clear hK K
   have HP:=AC (show Sp tb ab m k n li used lb f name w (.returned .nilIface) w6 from .inr (.inr ⟨AB HFN,AB HFU,rfl,w4.heap.size+1,w4.heap.size,by omega,by omega,by have:=hm5.lt;have:=hp6.2.2.2.size;omega,⟨_,hp6.2.2.1⟩,hm5.block (hp6.2.2.2.block _ hm5.lt (by simp;omega)),hp6.1,hp6.2.1,Bk.toK hB5 hp6.2.2.2 (by omega)⟩))
   refine wpAnyH_done (by kernel_rfl) ?_ _
   rw [AB HA]
   simp only [Act.put,zm,zi,zj]
   clear hP6 hP5 hp6 g23 g24 g25 HPU ht5 hdn5 hd5 hB5 hb5 hm5 hn5 HA e0 e5 esz hS HND R
   go_wp2
   go_ret
   exact AB HP
end Go.Proofs.YtdchgbmliojoiaaGreatDoor
