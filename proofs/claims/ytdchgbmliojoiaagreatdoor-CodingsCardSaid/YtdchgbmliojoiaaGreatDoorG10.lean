import Derived.Test.YtdchgbmliojoiaaGreatDoorG09
import Derived.Test.YtdchgbmliojoiaaGreatDoorG05
import Derived.Deep.Cut
import Derived.Shelf.Abstract
set_option maxRecDepth 100000
set_option maxHeartbeats 1000000
set_option linter.unusedVariables false
set_option linter.unusedSimpArgs false
namespace Go.Proofs.YtdchgbmliojoiaaGreatDoor
open Go Go.RowKit
def BW (pid par st su le pc:Int) (R:List Int) (pv:Value) (F:List Int):List Value:=[.int .i64 pid,.int .i64 par,.int .i64 st,.int .i64 su,.int .i64 le,.int .u64 pc,.int .u64 (R[0]?.getD 0),.int .u64 (R[1]?.getD 0),.int .u64 (R[2]?.getD 0),.int .u64 (R[3]?.getD 0),.int .u64 (R[4]?.getD 0),.int .u64 (R[5]?.getD 0),.int .u64 (R[6]?.getD 0),.int .u64 (R[7]?.getD 0),.int .u64 (R[8]?.getD 0),.int .u64 (R[9]?.getD 0),.int .u64 (R[10]?.getD 0),.int .u64 (R[11]?.getD 0),.int .u64 (R[12]?.getD 0),.int .u64 (R[13]?.getD 0),.int .u64 (R[14]?.getD 0),.int .u64 (R[15]?.getD 0),pv,.int .i64 (F[0]?.getD 0),.int .i64 (F[1]?.getD 0),.int .i64 (F[2]?.getD 0),.int .i64 (F[3]?.getD 0),.int .i64 (F[4]?.getD 0),.int .i64 (F[5]?.getD 0),.int .i64 (F[6]?.getD 0),.int .i64 (F[7]?.getD 0)]
structure AP where
 pid:Int
 par:Int
 st:Int
 su:Int
 le:Int
 pc:Int
 R:List Int
 PS:List Pg
 F:List Int
structure ec (p:AP):Prop where
 regs:p.R.length=16
 pages:∀q∈p.PS,0<=q.perm/\q.perm<=255/\q.bytes.length=256
 count:p.PS.length<=1000
theorem Bi {w:World} {b o:Nat} {cs:List Value} (h:w.rangeAt b o cs) {j:Nat} (hj:j<cs.length) (v:Value):(w.setCell (pK b (o+j)) v).rangeAt b o (cs.set j v):=by
 intro i x hx
 by_cases e:j=i
 ·subst e
  rw [List.getElem?_set_self hj] at hx
  obtain rfl:=zr hx
  exact z8 _ _ _ (h j _ (zz hj))
 ·rw [List.getElem?_set_ne e] at hx
  have:=h i x hx
  have ho:o+i≠o+j:=by omega
  rw [z7 _ _ _ _ (by simp<;>omega)]
  exact this
theorem Lo (pid par st su le pc:Int) (R:List Int) (pv:Value) (F:List Int):(BW pid par st su le pc R pv F).length=31:=rfl
theorem Sk (pid par st su le pc:Int) (R:List Int) (pv:Value) (F:List Int):∀r:Nat,r<16->(BW pid par st su le pc R pv F)[6+r]? =some (.int .u64 (R[r]?.getD 0))
 |0,_=>rfl
 |1,_=>rfl
 |2,_=>rfl
 |3,_=>rfl
 |4,_=>rfl
 |5,_=>rfl
 |6,_=>rfl
 |7,_=>rfl
 |8,_=>rfl
 |9,_=>rfl
 |10,_=>rfl
 |11,_=>rfl
 |12,_=>rfl
 |13,_=>rfl
 |14,_=>rfl
 |15,_=>rfl
 |n+16,h=>by omega
theorem Sl (pid par st su le pc v:Int) (pv:Value) (F R:List Int) (h:R.length=16) (r:Nat) (hr:r<16):BW pid par st su le pc (R.set r v) pv F=(BW pid par st su le pc R pv F).set (6+r) (.int .u64 v):=by
 match R,h with
 |[a0,a1,a2,a3,a4,a5,a6,a7,a8,a9,a10,a11,a12,a13,a14,a15],_=>
  match r,hr with
  |0,_=>rfl
  |1,_=>rfl
  |2,_=>rfl
  |3,_=>rfl
  |4,_=>rfl
  |5,_=>rfl
  |6,_=>rfl
  |7,_=>rfl
  |8,_=>rfl
  |9,_=>rfl
  |10,_=>rfl
  |11,_=>rfl
  |12,_=>rfl
  |13,_=>rfl
  |14,_=>rfl
  |15,_=>rfl
  |n+16,hr=>omega
structure Ep (w:World) (gp o:Nat) (p:AP) (aa:Option Addr) (ga ca:Nat):Prop where
 row:w.rangeAt gp o (BW p.pid p.par p.st p.su p.le p.pc p.R (.slice aa p.PS.length ca) p.F)
 aa:0<p.PS.length->aa=some (pK ga 0)
 pages:Dq w ga p.PS
 fz:∀i,w.frozen? (pK ga i)=false
 fp:∀i,w.frozen? (pK gp i)=false
 apart:ga≠gp
 regs:p.R.length=16
theorem Ep.reg {w:World} {gp o:Nat} {p:AP} {aa:Option Addr} {ga ca:Nat} (h:Ep w gp o p aa ga ca) {r:Nat} (hr:r<16):w.cell? (pK gp (o+(6+r)))=some (.int .u64 (p.R.getD r 0)):=by
 rw [zl]
 exact h.row (6+r) _ (Sk _ _ _ _ _ _ _ _ _ r hr)
theorem Ep.setReg {w:World} {gp o:Nat} {p:AP} {aa:Option Addr} {ga ca:Nat} (h:Ep w gp o p aa ga ca) {r:Nat} (hr:r<16) (v:Int):Ep (w.setCell (pK gp (o+(6+r))) (.int .u64 v)) gp o {p with R:=p.R.set r v} aa ga ca:=by
 refine ⟨?_,h.aa,?_,fun i=>by simpa using h.fz i,fun i=>by simpa using h.fp i,h.apart,by rw [yx];exact h.regs⟩
 ·show (w.setCell (pK gp (o+(6+r))) (.int .u64 v)).rangeAt gp o (BW p.pid p.par p.st p.su p.le p.pc (p.R.set r v) (.slice aa p.PS.length ca) p.F)
  rw [Sl _ _ _ _ _ _ _ _ _ _ h.regs r hr]
  exact Bi h.row (by rw [Lo];omega) _
 ·intro i q hq
  have hg:=AS (zk w (some gp)) (o+(6+r)) (.int .u64 v)
  obtain ⟨a,b,c⟩:=h.pages i q hq
  have hne:some ga≠some gp:=by simpa using h.apart
  exact ⟨hg.cell a hne,hg.cell b hne,fun j x hx=>hg.cell (c j x hx) hne⟩
theorem Ep.setPC {w:World} {gp o:Nat} {p:AP} {aa:Option Addr} {ga ca:Nat} (h:Ep w gp o p aa ga ca) (v:Int):Ep (w.setCell (pK gp (o+5)) (.int .u64 v)) gp o {p with pc:=v} aa ga ca:=by
 refine ⟨?_,h.aa,?_,fun i=>by simpa using h.fz i,fun i=>by simpa using h.fp i,h.apart,h.regs⟩
 ·exact Bi h.row (j:=5) (by rw [Lo];omega) (.int .u64 v)
 ·intro i q hq
  have hg:=AS (zk w (some gp)) (o+5) (.int .u64 v)
  obtain ⟨a,b,c⟩:=h.pages i q hq
  have hne:some ga≠some gp:=by simpa using h.apart
  exact ⟨hg.cell a hne,hg.cell b hne,fun j x hx=>hg.cell (c j x hx) hne⟩
theorem Ep.below {w w':World} {gp o:Nat} {p:AP} {aa:Option Addr} {ga ca:Nat} (h:Ep w gp o p aa ga ca) (hb:Below w.heap.size w w') (hl:ga<w.heap.size):Ep w' gp o p aa ga ca:=by
 have hpl:gp<w.heap.size:=zu w _ (h.row 0 _ rfl)
 have hc:∀b i v,w.cell? (pK b i)=some v->w'.cell? (pK b i)=some v:=fun b i v hv=>by rw [hb.cell (p:=(pK b i)) (zu w _ hv)];exact hv
 have hf:∀b i,b<w.heap.size->w.frozen? (pK b i)=false->w'.frozen? (pK b i)=false:=fun b i hbl hv=>by unfold World.frozen? at hv ⊢;rw [hb.block b hbl];exact hv
 refine ⟨fun j v hv=>hc _ _ _ (h.row j v hv),h.aa,fun i q hq=> ?_,fun i=>hf _ _ hl (h.fz i),fun i=>hf _ _ hpl (h.fp i),h.apart,h.regs⟩
 obtain ⟨a,b,c⟩:=h.pages i q hq
 exact ⟨hc _ _ _ a,hc _ _ _ b,fun j v hv=>hc _ _ _ (c j v hv)⟩
def Ap (PS:List Pg) (addr:Int):Int:=match PS.find? (fun p=>p.num==addr/256) with|some q=>q.bytes.getD (addr%256).toNat 0|none=>0
structure Ins where
 op:Int
 a:Int
 b:Int
 im:Int
def Q4 (i:Ins):Value:= .agg #[.int .i64 i.op,.int .i64 i.a,.int .i64 i.b,.int .i64 i.im]
def AH (PS:List Pg) (PC:Int):Ins×Int:=
 if Bs PS PC 1 1=true/\PC%4=0 then
  (if Ap PS PC<1\/24<Ap PS PC then (⟨0,0,0,0⟩,130)
   else (⟨Ap PS PC,Ap PS (PC+1)/16,Ap PS (PC+1)%16,IntKind.i16.wrap (Ap PS (PC+2)+Ap PS (PC+3)*256)⟩,0))
 else (⟨0,0,0,0⟩,129)
theorem cy {PS:List Pg} {PC perm:Int} (h0:0<=PC) (h:Bs PS PC 1 perm=true):PC<65536/\∃q,PS.find? (fun p=>p.num==PC/256)=some q:=by
 unfold Bs at h
 rw [if_neg (by omega)] at h
 split at h
 ·cases h
 ·rename_i hc
  refine ⟨by omega,?_⟩
  have hK:((PC+1-1)/256-PC/256+1).toNat=1:=by
   rw [show PC+1-1=PC by omega];omega
  rw [hK] at h
  have h1:Do PS perm (PC/256+((0:Nat):Int))=true:=zb.1 h 0 (zg.2 (by omega))
  rw [show PC/256+((0:Nat):Int)=PC/256 by omega] at h1
  unfold Do at h1
  cases hf:PS.find? (fun p=>p.num==PC/256) with
  |none=>rw [hf] at h1;cases h1
  |some q=>exact ⟨q,rfl⟩
theorem mayEnter:∀args w,(callFunc 43 args).run Tryz.prog w= .ok (.enter 43 args) w:=enters_of Tryz.func43 (by kernel_rfl) rfl
theorem YG:∀args w,(callFunc 44 args).run Tryz.prog w= .ok (.enter 44 args) w:=enters_of Tryz.func44 (by kernel_rfl) rfl
def Kh (gp o:Nat) (sv:Value) (PC:Int) (w:World):Prop:=w.cell? (pK gp (o+22))=some sv/\w.cell? (pK gp (o+5))=some (.int .u64 PC)
theorem Kh.below {gp o:Nat} {sv:Value} {PC:Int} {w w':World} (h:Kh gp o sv PC w) (hb:Below w.heap.size w w'):Kh gp o sv PC w':=
 ⟨by rw [hb.cell (p:=(pK gp (o+22))) (zu w _ h.1)];exact h.1,by rw [hb.cell (p:=(pK gp (o+5))) (zu w _ h.2)];exact h.2⟩
theorem Dq.below {w w':World} {g:Nat} {PS:List Pg} (h:Dq w g PS) (hb:Below w.heap.size w w'):Dq w' g PS:=fun i p hp=>by
 obtain ⟨a,b,c⟩:=h i p hp
 refine ⟨by rw [hb.cell (p:=(pK g (i*258))) (zu w _ a)];exact a,by rw [hb.cell (p:=(pK g (i*258+1))) (zu w _ b)];exact b,fun j v hv=> ?_⟩
 have:=c j v hv
 rw [hb.cell (p:=(pK g (i*258+2+j))) (zu w _ this)]
 exact this
theorem F9 {PS:List Pg} (h:∀q∈PS,q.bytes.length=256/\AY q.bytes) (x:Int):0<=Ap PS x/\Ap PS x<=255:=by
 unfold Ap
 cases hf:PS.find? (fun p=>p.num==x/256) with
 |none=>exact ⟨Int.le_refl 0,show (0:Int)<=255 by decide⟩
 |some q=>exact (h q (yq hf)).2 (x%256).toNat
def Nn (gp o:Nat) (sv:Value) (PC:Int) (ga x:Nat) (bv:Int) (w:World):Prop:=Kh gp o sv PC w/\w.cell? (pK ga x)=some (.int .u8 bv)
theorem Nn.grown {gp o:Nat} {sv:Value} {PC:Int} {ga x:Nat} {bv:Int} {w w':World} {r:Option Nat} (h:Nn gp o sv PC ga x bv w) (hg:w.grownBy w' r) (h1:some gp≠r) (h2:some ga≠r):Nn gp o sv PC ga x bv w':=
 ⟨⟨hg.cell h.1.1 h1,hg.cell h.1.2 h1⟩,hg.cell h.2 h2⟩
def J2 (b:Int->Int) (j:Nat):List Value:=[.int .u8 (if 0<j then b 0 else 0),.int .u8 (if 1<j then b 1 else 0),.int .u8 (if 2<j then b 2 else 0),.int .u8 (if 3<j then b 3 else 0)]
theorem TS (b:Int->Int) (j:Nat) (h:j<4):(J2 b j).set j (.int .u8 (b j))=J2 b (j+1):=by
 rcases (show j=0\/j=1\/j=2\/j=3 by omega) with rfl|rfl|rfl|rfl<;>rfl
def Q5 (W:World) (b:Nat) (u0 u1 u2 u3:Value):World:=(((W.setCell (pK b 0) u0).setCell (pK b 1) u1).setCell (pK b 2) u2).setCell (pK b 3) u3
theorem ID {W:World} {b:Nat} {t:TypeId} {x0 x1 x2 x3:Value} (h:AG W b t [x0,x1,x2,x3]) (u0 u1 u2 u3:Value):(Q5 W b u0 u1 u2 u3).cell? (pK b 0)=some u0/\(Q5 W b u0 u1 u2 u3).cell? (pK b 1)=some u1/\(Q5 W b u0 u1 u2 u3).cell? (pK b 2)=some u2/\(Q5 W b u0 u1 u2 u3).cell? (pK b 3)=some u3:=by
 have h2:=(((h.set 0 u0).set 1 u1).set 2 u2).set 3 u3
 exact ⟨h2.cell (j:=0) rfl,h2.cell (j:=1) rfl,h2.cell (j:=2) rfl,h2.cell (j:=3) rfl⟩
theorem GN {w W:World} {b:Nat} (h:Below w.heap.size w W) (hb:w.heap.size<=b) (u0 u1 u2 u3:Value):Below w.heap.size w (Q5 W b u0 u1 u2 u3):=
 (((h.setCell (p:=(pK b 0)) hb u0).setCell (p:=(pK b 1)) hb u1).setCell (p:=(pK b 2)) hb u2).setCell (p:=(pK b 3)) hb u3
theorem No (aa:Option Addr) (ga ca gp o:Nat) (PS:List Pg) (PC:Int) (w:World) (hs:Kh gp o (.slice aa PS.length ca) PC w) (ha:0<PS.length->aa=some (pK ga 0)) (hA:Dq w ga PS) (hn:PS.length<=100000) (hok:∀q∈PS,q.bytes.length=256/\AY q.bytes) (h0:0<=PC) (h1:PC<=18446744073709551615):
  Calls Tryz.prog 21 #[pq gp o] w fun e w'=>e= .returned (.tuple #[Q4 (AH PS PC).1,.int .i64 (AH PS PC).2])/\Below w.heap.size w w':=by
 obtain ⟨W0,hW0⟩:∃W0,W0=w.alloc (Obj.cells #[.int .i64 0,.int .i64 0,.int .i64 0,.int .i64 0] 89):=⟨_,rfl⟩
 have hb0:Below w.heap.size w W0:=by rw [hW0];exact (zw _ _).alloc (zx _) _
 have hi0:AG W0 w.heap.size 89 [.int .i64 0,.int .i64 0,.int .i64 0,.int .i64 0]:=by rw [hW0];exact AG.new w 89 _
 have HS0:=AC (hs.below hb0)
 have hbd:Below W0.heap.size W0 W0.drew:=⟨rfl,rfl,rfl,zx _,fun _ _=>rfl⟩
 have HM:=AC (WZ aa ga ca PS PC 1 1 W0.drew ha ((hA.below hb0).below hbd) hn h0 h1 (by omega) (by omega))
 have RS:=AC (show ∀w':World,Kh gp o (.slice aa PS.length ca) PC w'->(Instr.loadAt 77 (pq gp (o+22))).run Tryz.prog w'= .ok (.slice aa PS.length ca) w' from fun w' h=>by
  have c:=h.1
  clear hs hA
  go_simp)
 have RP:=AC (show ∀w':World,Kh gp o (.slice aa PS.length ca) PC w'->(Instr.loadAt 75 (pq gp (o+5))).run Tryz.prog w'= .ok (.int .u64 PC) w' from fun w' h=>by
  have c:=h.2
  clear hs hA
  go_simp)
 have HW0:=AC hW0
 have HB0:=AC hb0
 have HI0:=AC hi0
 have HA:=AC hA
 have HAA:=AC ha
 have HOK:=AC hok
 clear hW0 hb0 hi0 hA hok hs hbd ha
 go_enter Tryz.func21,Tryz.ntmps21
 go_upto_region 1 with fail
 rw [<-AB HW0]
 refine BA ?_
 intro A hA
 have e0:A.eval (.tmp 0)= pq gp o:=by rw [hA];rfl
 have esz:A.tmps.size=73:=by rw [hA];rfl
 have HAC:=AC hA
 clear hA
 refine wp_region_held_drew (S:=Kh gp o (.slice aa PS.length ca) PC) (by kernel_rfl) (AB HS0) (fun hS=> ?_)
 refine tk 0 (some 10) rfl rfl (by kernel_rfl) (fun _ _ _=>id) (AK rfl _ rfl (pq gp o) (by simp [AF,AE,esz,e0,AI])) hS ?_
 refine tk 1 (some 11) rfl rfl (by kernel_rfl) (fun _ _ _=>id) (AX rfl _ rfl (pK gp o) (by simp [AF,AE,esz,e0,AI])) hS ?_
 refine tk 2 (some 12) rfl rfl (by kernel_rfl) (fun _ _ _=>id) (AO rfl _ _ _ rfl (pq gp o) (by simp [AF,AE,esz,e0,AI]) (pq gp (o+22)) (fun w'=>by go_simp)) hS ?_
 refine tk 3 (some 13) rfl rfl (by kernel_rfl) (fun _ _ _=>id) (AQ rfl _ _ rfl (pK gp (o+22)) (by simp [AF,AE,esz,e0,AI]) (.slice aa PS.length ca) (AB RS)) hS ?_
 refine tk 4 (some 14) rfl rfl (by kernel_rfl) (fun _ _ _=>id) (AK rfl _ rfl (pq gp o) (by simp [AF,AE,esz,e0,AI])) hS ?_
 refine tk 5 (some 15) rfl rfl (by kernel_rfl) (fun _ _ _=>id) (AX rfl _ rfl (pK gp o) (by simp [AF,AE,esz,e0,AI])) hS ?_
 refine tk 6 (some 16) rfl rfl (by kernel_rfl) (fun _ _ _=>id) (AO rfl _ _ _ rfl (pq gp o) (by simp [AF,AE,esz,e0,AI]) (pq gp (o+5)) (fun w'=>by go_simp)) hS ?_
 refine tk 7 (some 17) rfl rfl (by kernel_rfl) (fun _ _ _=>id) (AQ rfl _ _ rfl (pK gp (o+5)) (by simp [AF,AE,esz,e0,AI]) (.int .u64 PC) (AB RP)) hS ?_
 refine rdy [8] (by kernel_rfl) (AllReadyH.cons rfl (fun K hK=> ?_) AllReadyH.nil)
 refine Bt rfl 43 _ _ rfl #[.slice aa PS.length ca,.int .u64 PC,.int .i64 1,.int .i64 1] (by simp [AF,AE,esz,e0,AI]) mayEnter _ (fun e w' h=>⟨_,h.1⟩) (AB HM) (some 18) rfl ?_
 rintro r w1 ⟨hr,hh1,hb1⟩
 have hb1:Below W0.heap.size W0 w1:=⟨hb1.os,hb1.tape,hb1.output,hb1.size,hb1.block⟩
 have hr:r= .bool (Bs PS PC 1 1):=by injection hr
 subst hr
 have hS1:=(AB HS0).below hb1
 refine hK.out _ _ hS1 (fun _=> ?_)
 clear hK K
 refine tk 9 (some 4) rfl rfl (by kernel_rfl) (fun _ _ _=>id) (Ct rfl _ rfl (.bool (Bs PS PC 1 1)) (by simp [AF,AE,esz,e0,AI])) hS1 ?_
 refine wpAnyH_done (by kernel_rfl) ?_ _
 rw [AB HAC]
 simp only [Act.put,zm,zi,zj]
 have HB1:=AC ((AB HB0).trans (hb1.mono (AB HB0).size))
 have HI1:=AC ((AB HI0).below hb1 (AB HI0).lt)
 have HS1:=AC hS1
 have HB01:=AC hb1
 obtain ⟨m,hm⟩:∃m,m=Bs PS PC 1 1:=⟨_,rfl⟩
 rw [<-hm]
 have HMM:=AC hm
 have p5:w1.cell? (pK gp (o+5))=some (.int .u64 PC):=hS1.2
 clear hS1 hb1 hh1 hm HAC e0 esz hS HM
 have x0:=(AB HI1).cell (j:=0) rfl
 have x1:=(AB HI1).cell (j:=1) rfl
 have x2:=(AB HI1).cell (j:=2) rfl
 have x3:=(AB HI1).cell (j:=3) rfl
 have f0:=(AB HI1).frozen 0
 have f1:=(AB HI1).frozen 1
 have f2:=(AB HI1).frozen 2
 have f3:=(AB HI1).frozen 3
 cases m with
 |false=>
  obtain ⟨d0,d1,d2,d3⟩:=ID (AB HI1) (.int .i64 0) (.int .i64 0) (.int .i64 0) (.int .i64 0)
  unfold Q5 at d0 d1 d2 d3
  have HBZ:=AC (GN (AB HB1) (zx _) (.int .i64 0) (.int .i64 0) (.int .i64 0) (.int .i64 0))
  have HNX:=AC (show AH PS PC=(⟨0,0,0,0⟩,129) from by unfold AH;rw [if_neg (fun q=>by rw [<-AB HMM] at q;exact absurd q.1 (by decide))])
  go_wp2
  exact bodyPost_ret (v:= .tuple #[.agg #[.int .i64 0,.int .i64 0,.int .i64 0,.int .i64 0],.int .i64 129]) (by simp [results,Tryz.results21,go_sem,d0,d1,d2,d3]) rfl ⟨by rw [AB HNX];rfl,AB HBZ⟩
 |true=>
  have ht4:PC.tmod 4=PC%4:=yn h0
  by_cases h4:PC%4=0
  ·have k4:(PC.tmod 4==0)=true:=by rw [ht4,h4];rfl
   obtain ⟨hPC,q,hq⟩:=cy h0 (AB HMM).symm
   obtain ⟨kk,hkp,hkq⟩:∃kk:Nat,I3 PS (PC/256)=kk/\PS[kk]? =some q:=by
    rcases J1 PS (PC/256) with ⟨_,h⟩|⟨k,q',a,b,c,_⟩
    ·rw [hq] at h;cases h
    ·rw [hq] at c;obtain rfl:=zr c;exact ⟨k,a,b⟩
   have hkl:=(zy.1 hkq).1
   obtain rfl:=AB HAA (by omega)
   have hbd:Below w1.heap.size w1 w1.drew:=⟨rfl,rfl,rfl,zx _,fun _ _=>rfl⟩
   have HA1:=AC (((AB HA).below (AB HB0)).below (AB HB01))
   have HF:=AC (Kg (some (pK ga 0)) ga ca PS (PC/256) w1.drew (fun _=>rfl) ((AB HA1).below hbd) hn)
   rw [hkp] at HF
   have RC:=AC (show ∀w':World,(convert 75 3 (.int .u64 PC)).run Tryz.prog w'= .ok (.int .i64 PC) w' from fun w'=>by
    clear p5 x0 x1 x2 x3 f0 f1 f2 f3
    go_simp
    try (rw [yl];omega))
   have RD:=AC (show ∀w':World,((do eqGuard .quo 3 (.tmp 38) (.const (.int .i64 256)) (.int .i64 PC) (.int .i64 256);binOp .quo 3 (.int .i64 PC) (.int .i64 256):Sem Value)).run Tryz.prog w'= .ok (.int .i64 (PC/256)) w' from fun w'=>by
    clear p5 x0 x1 x2 x3 f0 f1 f2 f3
    have ht:PC.tdiv 256=PC/256:=Int.tdiv_eq_ediv_of_nonneg h0
    go_simp
    first|(rw [ht,yl];omega)|(rw [yl];omega))
   have HQ:=AC (And.intro hq (And.intro hkq hkl))
   clear hq hkq hkp hbd
   go_upto_region 4 with fail
   refine BA ?_
   intro A hA
   have e0:A.eval (.tmp 0)= pq gp o:=by rw [hA];rfl
   have esz:A.tmps.size=73:=by rw [hA];rfl
   have HAC:=AC hA
   clear hA
   refine wp_region_held_drew (S:=Kh gp o (.slice (some (pK ga 0)) PS.length ca) PC) (by kernel_rfl) (AB HS1) (fun hS=> ?_)
   refine tk 0 (some 30) rfl rfl (by kernel_rfl) (fun _ _ _=>id) (AK rfl _ rfl (pq gp o) (by simp [AF,AE,esz,e0,AI])) hS ?_
   refine tk 1 (some 31) rfl rfl (by kernel_rfl) (fun _ _ _=>id) (AX rfl _ rfl (pK gp o) (by simp [AF,AE,esz,e0,AI])) hS ?_
   refine tk 2 (some 32) rfl rfl (by kernel_rfl) (fun _ _ _=>id) (AO rfl _ _ _ rfl (pq gp o) (by simp [AF,AE,esz,e0,AI]) (pq gp (o+22)) (fun w'=>by go_simp)) hS ?_
   refine tk 3 (some 33) rfl rfl (by kernel_rfl) (fun _ _ _=>id) (AQ rfl _ _ rfl (pK gp (o+22)) (by simp [AF,AE,esz,e0,AI]) (.slice (some (pK ga 0)) PS.length ca) (AB RS)) hS ?_
   refine tk 4 (some 34) rfl rfl (by kernel_rfl) (fun _ _ _=>id) (AK rfl _ rfl (pq gp o) (by simp [AF,AE,esz,e0,AI])) hS ?_
   refine tk 5 (some 35) rfl rfl (by kernel_rfl) (fun _ _ _=>id) (AX rfl _ rfl (pK gp o) (by simp [AF,AE,esz,e0,AI])) hS ?_
   refine tk 6 (some 36) rfl rfl (by kernel_rfl) (fun _ _ _=>id) (AO rfl _ _ _ rfl (pq gp o) (by simp [AF,AE,esz,e0,AI]) (pq gp (o+5)) (fun w'=>by go_simp)) hS ?_
   refine tk 7 (some 37) rfl rfl (by kernel_rfl) (fun _ _ _=>id) (AQ rfl _ _ rfl (pK gp (o+5)) (by simp [AF,AE,esz,e0,AI]) (.int .u64 PC) (AB RP)) hS ?_
   refine tk 8 (some 38) rfl rfl (by kernel_rfl) (fun _ _ _=>id) (It rfl _ _ _ rfl (.int .u64 PC) (by simp [AF,AE,esz,e0,AI]) (.int .i64 PC) (AB RC)) hS ?_
   refine tk 9 (some 39) rfl rfl (by kernel_rfl) (fun _ _ _=>id) (B7 rfl .quo _ _ (.tmp 38) (.const (.int .i64 256)) rfl (.int .i64 PC) (.int .i64 256) (by simp [AF,AE,esz,e0,AI]) rfl (.int .i64 (PC/256)) (AB RD)) hS ?_
   refine rdy [10] (by kernel_rfl) (AllReadyH.cons rfl (fun K hK=> ?_) AllReadyH.nil)
   refine Bt rfl 44 _ _ rfl #[.slice (some (pK ga 0)) PS.length ca,.int .i64 (PC/256)] (by simp [AF,AE,esz,e0,AI]) YG _ (fun e w' h=>⟨_,h.1⟩) (AB HF) (some 40) rfl ?_
   rintro r w2 ⟨hr,hh2,hb2⟩
   have hb2:Below w1.heap.size w1 w2:=⟨hb2.os,hb2.tape,hb2.output,hb2.size,hb2.block⟩
   have hr:r= .int .i64 (kk:Int):=by injection hr
   subst hr
   have hS2:=(AB HS1).below hb2
   refine hK.out _ _ hS2 (fun _=> ?_)
   clear hK K
   refine tk 11 (some 5) rfl rfl (by kernel_rfl) (fun _ _ _=>id) (Ct rfl _ rfl (.int .i64 (kk:Int)) (by simp [AF,AE,esz,e0,AI])) hS2 ?_
   refine wpAnyH_done (by kernel_rfl) ?_ _
   rw [AB HAC]
   simp only [Act.put,zm,zi,zj]
   have HB2:=AC ((AB HB1).trans (hb2.mono (AB HB1).size))
   have HI2:=AC ((AB HI1).below hb2 (AB HI1).lt)
   have HS2:=AC hS2
   have HA2:=AC ((AB HA1).below hb2)
   clear hS2 hb2 hh2 HAC e0 esz hS HF RC RD p5 x0 x1 x2 x3 f0 f1 f2 f3 HS1 HI1 HB1 HB01 HA1
   obtain ⟨W5,hW5⟩:∃W5,W5=w2.alloc (Obj.cells #[.int .u8 0,.int .u8 0,.int .u8 0,.int .u8 0] 135):=⟨_,rfl⟩
   have HW5:=AC hW5
   have hb5:Below w2.heap.size w2 W5:=by rw [hW5];exact (zw _ _).alloc (zx _) _
   have hr5:AG W5 w2.heap.size 135 (J2 (fun i=>Ap PS (PC+i)) 0):=by rw [hW5];exact AG.new w2 135 _
   have HB5:=AC hb5
   have HR5:=AC hr5
   clear hW5 hb5 hr5
   obtain ⟨QB,hQB⟩:∃QB,QB=w2.heap.size:=⟨_,rfl⟩
   have HQB:=AC (show QB=w2.heap.size from hQB)
   go_upto_region 6 with fail
   rw [<-AB HW5,<-hQB]
   rw [<-hQB] at HB5 HR5
   clear hQB HW5
   go_wp2
   go_loopw [7] (fun v wr=>∃j:Nat,j<=4/\v= .int .i64 j/\Hid (Below QB w2 wr/\AG wr QB 135 (J2 (fun i=>Ap PS (PC+i)) j))) (fun v _=>4-(intOf v).toNat)
   case atStart=>exact ⟨0,by omega,rfl,AC ⟨AB HB5,AB HR5⟩⟩
   case round=>
    obtain ⟨j,hj,rfl,HJ⟩:=hrel
    by_cases hlt:j<4
    ·have hj0:(0:Int)<=(j:Int):=by omega
     have hj4:(j:Int)<4:=by omega
     obtain ⟨M,hM⟩:∃M:Nat,(M:Int)=PC%256:=⟨(PC%256).toNat,by omega⟩
     have hq:=AB HQ
     have hX:M+j<256:=by omega
     have hqo:=AB HOK q (zv hq.2.1)
     obtain ⟨bv,hbv⟩:∃bv,bv=Ap PS (PC+(j:Int)):=⟨_,rfl⟩
     have hbq:q.bytes.getD (M+j) 0=bv:=by
      rw [hbv]
      unfold Ap
      rw [show (PC+(j:Int))/256=PC/256 by omega,hq.1]
      show q.bytes.getD (M+j) 0=q.bytes.getD ((PC+(j:Int))%256).toNat 0
      rw [show ((PC+(j:Int))%256).toNat=M+j by omega]
     have hbj:Below w2.heap.size w2 wr:=by rw [<-AB HQB];exact (AB HJ).1
     have hSj:Nn gp o (.slice (some (pK ga 0)) PS.length ca) PC ga (kk*258+2+(M+j)) bv wr:=⟨(AB HS2).below hbj,((AB HA2).below hbj kk q hq.2.1).2.2 (M+j) _ (by rw [AT _ _ (by omega),hbq])⟩
     have hrj:=(AB HJ).2.heap (W':=wr.drew) rfl
     have hbJ:Below QB w2 wr.drew:=⟨(AB HJ).1.os,(AB HJ).1.tape,(AB HJ).1.output,(AB HJ).1.size,(AB HJ).1.block⟩
     have hst:(Instr.storeAt 5 (pq QB j) (.int .u8 bv)).run Tryz.prog wr.drew= .ok () (wr.drew.setCell (pK QB j) (.int .u8 bv)):=by
      obtain ⟨v0,hv0⟩:∃v0,(J2 (fun i=>Ap PS (PC+i)) j)[j]? =some v0:=⟨_,zz (by simp [J2];omega)⟩
      have c:=hrj.cell hv0
      have f:=hrj.frozen j
      clear hrj hbJ hSj hbj hq HJ HS2 HA2 HI2 HB2 HOK HMM HQ RS RP
      go_simp
     obtain ⟨wn,hwn⟩:∃wn,wn=wr.drew.setCell (pK QB j) (.int .u8 bv):=⟨_,rfl⟩
     rw [<-hwn] at hst
     have hgn:wr.drew.grownBy wn (some QB):=by rw [hwn];exact AS (zk _ _) j _
     have hlg:gp<QB/\ga<QB:=by
      rw [AB HQB]
      exact ⟨zu w2 _ (AB HS2).1,zu w2 _ ((AB HA2) kk q hq.2.1).1⟩
     have hSn:=(show Nn gp o (.slice (some (pK ga 0)) PS.length ca) PC ga (kk*258+2+(M+j)) bv wr.drew from hSj).grown hgn (by simp;omega) (by simp;omega)
     have HJN:=AC (show Below QB w2 wn/\AG wn QB 135 (J2 (fun i=>Ap PS (PC+i)) (j+1)) from by
      rw [hwn,<-TS _ j hlt,<-hbv]
      exact ⟨hbJ.setCell (p:=(pK QB j)) (zx _) _,hrj.set j _⟩)
     have hkl0:(0:Int)<=(kk:Int):=by omega
     have hkl1:(kk:Int)<(PS.length:Int):=by have:=hq.2.2;omega
     have hx0:(0:Int)<=((M+j:Nat):Int):=by omega
     have hx1:((M+j:Nat):Int)<256:=by omega
     have RB:=AC (show ∀w':World,Nn gp o (.slice (some (pK ga 0)) PS.length ca) PC ga (kk*258+2+(M+j)) bv w'->(Instr.loadAt 5 (pq ga (kk*258+2+(M+j)))).run Tryz.prog w'= .ok (.int .u8 bv) w' from fun w' h=>by
      have c:=h.2
      clear hrj hbJ hSj hbj hq HJ HS2 HA2 HI2 HB2 HOK HMM HQ RS RP hSn hst
      go_simp)
     have RC:=AC (show ∀w':World,(convert 75 3 (.int .u64 PC)).run Tryz.prog w'= .ok (.int .i64 PC) w' from fun w'=>by
      clear hrj hbJ hSj hbj hq HJ HS2 HA2 HI2 HB2 HOK HMM HQ RS RP hSn hst
      go_simp
      try (rw [yl];omega))
     have RD:=AC (show ∀w':World,((do eqGuard .rem 3 (.tmp 55) (.const (.int .i64 256)) (.int .i64 PC) (.int .i64 256);binOp .rem 3 (.int .i64 PC) (.int .i64 256):Sem Value)).run Tryz.prog w'= .ok (.int .i64 (M:Int)) w' from fun w'=>by
      have ht:PC.tmod 256=PC%256:=yn h0
      rw [hM,<-ht]
      clear hrj hbJ hSj hbj hq HJ HS2 HA2 HI2 HB2 HOK HMM HQ RS RP hSn hst
      go_simp
      try (rw [ht,yl];omega))
     have RE:=AC (show ∀w':World,((do eqGuard .add 3 (.tmp 56) (.tmp 57) (.int .i64 (M:Int)) (.int .i64 (j:Int));binOp .add 3 (.int .i64 (M:Int)) (.int .i64 (j:Int)):Sem Value)).run Tryz.prog w'= .ok (.int .i64 ((M+j:Nat):Int)) w' from fun w'=>by
      clear hrj hbJ hSj hbj hq HJ HS2 HA2 HI2 HB2 HOK HMM HQ RS RP hSn hst
      go_simp
      try (rw [yl]<;>omega))
     have RI:=AC (show ∀w':World,(Instr.indexAt 77 (.slice (some (pK ga 0)) PS.length ca) (.int .i64 (kk:Int))).run Tryz.prog w'= .ok (pq ga (kk*258)) w' from fun w'=>by
      clear hrj hbJ hSj hbj hq HJ HS2 HA2 HI2 HB2 HOK HMM HQ RS RP hSn hst
      go_simp)
     have RJ:=AC (show ∀w':World,(Instr.indexAt 136 (pq ga (kk*258+2)) (.int .i64 ((M+j:Nat):Int))).run Tryz.prog w'= .ok (pq ga (kk*258+2+(M+j))) w' from fun w'=>by
      clear hrj hbJ hSj hbj hq HJ HS2 HA2 HI2 HB2 HOK HMM HQ RS RP hSn hst
      obtain ⟨X,hXX⟩:∃X,X=M+j:=⟨_,rfl⟩
      rw [<-hXX] at hx0 hx1 ⊢
      clear hXX hM hX
      go_simp)
     have RK:=AC (show ∀w':World,(Instr.indexAt 135 (pq QB 0) (.int .i64 (j:Int))).run Tryz.prog w'= .ok (pq QB j) w' from fun w'=>by
      clear hrj hbJ hSj hbj hq HJ HS2 HA2 HI2 HB2 HOK HMM HQ RS RP hSn hst
      go_simp)
     have HSJ:=AC hSj
     have HSN:=AC hSn
     have HST:=AC hst
     clear hrj hbJ hSj hSn hst hgn hlg hbj hq hqo hbq hbv hwn hX hM hx0 hx1
     go_upto_region 9 with fail
     refine BA ?_
     intro A hA
     have e0:A.eval (.tmp 0)= pq gp o:=by rw [hA];rfl
     have e5:A.eval (.tmp 5)= .int .i64 (kk:Int):=by rw [hA];rfl
     have e6:A.eval (.tmp 6)= pq QB 0:=by rw [hA];rfl
     have e7:A.eval (.tmp 7)= .int .i64 (j:Int):=by rw [hA];rfl
     have esz:A.tmps.size=73:=by rw [hA];rfl
     have HAC:=AC hA
     clear hA
     refine wp_region_held_drew (S:=Nn gp o (.slice (some (pK ga 0)) PS.length ca) PC ga (kk*258+2+(M+j)) bv) (by kernel_rfl) (AB HSJ) (fun hS=> ?_)
     refine tk 0 (some 45) rfl rfl (by kernel_rfl) (fun _ _ _=>id) (AK rfl _ rfl (.int .i64 (j:Int)) (by simp [AF,AE,esz,e0,e5,e6,e7,AI])) hS ?_
     refine tk 1 (some 46) rfl rfl (by kernel_rfl) (fun _ _ _=>id) (AK rfl _ rfl (pq gp o) (by simp [AF,AE,esz,e0,e5,e6,e7,AI])) hS ?_
     refine tk 2 (some 47) rfl rfl (by kernel_rfl) (fun _ _ _=>id) (AX rfl _ rfl (pK gp o) (by simp [AF,AE,esz,e0,e5,e6,e7,AI])) hS ?_
     refine tk 3 (some 48) rfl rfl (by kernel_rfl) (fun _ _ _=>id) (AO rfl _ _ _ rfl (pq gp o) (by simp [AF,AE,esz,e0,e5,e6,e7,AI]) (pq gp (o+22)) (fun w'=>by go_simp)) hS ?_
     refine tk 4 (some 49) rfl rfl (by kernel_rfl) (fun _ _ _=>id) (AQ rfl _ _ rfl (pK gp (o+22)) (by simp [AF,AE,esz,e0,e5,e6,e7,AI]) (.slice (some (pK ga 0)) PS.length ca) (fun w' h=>AB RS w' h.1)) hS ?_
     refine tk 5 (some 50) rfl rfl (by kernel_rfl) (fun _ _ _=>id) (AK rfl _ rfl (.int .i64 (kk:Int)) (by simp [AF,AE,esz,e0,e5,e6,e7,AI])) hS ?_
     refine tk 6 (some 51) rfl rfl (by kernel_rfl) (fun _ _ _=>id) (AK rfl _ rfl (pq gp o) (by simp [AF,AE,esz,e0,e5,e6,e7,AI])) hS ?_
     refine tk 7 (some 52) rfl rfl (by kernel_rfl) (fun _ _ _=>id) (AX rfl _ rfl (pK gp o) (by simp [AF,AE,esz,e0,e5,e6,e7,AI])) hS ?_
     refine tk 8 (some 53) rfl rfl (by kernel_rfl) (fun _ _ _=>id) (AO rfl _ _ _ rfl (pq gp o) (by simp [AF,AE,esz,e0,e5,e6,e7,AI]) (pq gp (o+5)) (fun w'=>by go_simp)) hS ?_
     refine tk 9 (some 54) rfl rfl (by kernel_rfl) (fun _ _ _=>id) (AQ rfl _ _ rfl (pK gp (o+5)) (by simp [AF,AE,esz,e0,e5,e6,e7,AI]) (.int .u64 PC) (fun w' h=>AB RP w' h.1)) hS ?_
     refine tk 10 (some 55) rfl rfl (by kernel_rfl) (fun _ _ _=>id) (It rfl _ _ _ rfl (.int .u64 PC) (by simp [AF,AE,esz,e0,e5,e6,e7,AI]) (.int .i64 PC) (AB RC)) hS ?_
     refine tk 11 (some 56) rfl rfl (by kernel_rfl) (fun _ _ _=>id) (B7 rfl .rem _ _ (.tmp 55) (.const (.int .i64 256)) rfl (.int .i64 PC) (.int .i64 256) (by simp [AF,AE,esz,e0,e5,e6,e7,AI]) rfl (.int .i64 (M:Int)) (AB RD)) hS ?_
     refine tk 12 (some 57) rfl rfl (by kernel_rfl) (fun _ _ _=>id) (AK rfl _ rfl (.int .i64 (j:Int)) (by simp [AF,AE,esz,e0,e5,e6,e7,AI])) hS ?_
     refine tk 13 (some 58) rfl rfl (by kernel_rfl) (fun _ _ _=>id) (B7 rfl .add _ _ (.tmp 56) (.tmp 57) rfl (.int .i64 (M:Int)) (.int .i64 (j:Int)) (by simp [AF,AE,esz,e0,e5,e6,e7,AI]) (by simp [AF,AE,esz,e0,e5,e6,e7,AI]) (.int .i64 ((M+j:Nat):Int)) (AB RE)) hS ?_
     refine tk 14 (some 59) rfl rfl (by kernel_rfl) (fun _ _ _=>id) (BM rfl _ _ _ rfl (.slice (some (pK ga 0)) PS.length ca) (.int .i64 (kk:Int)) (by simp [AF,AE,esz,e0,e5,e6,e7,AI]) (by simp [AF,AE,esz,e0,e5,e6,e7,AI]) (pq ga (kk*258)) (AB RI)) hS ?_
     refine tk 15 (some 60) rfl rfl (by kernel_rfl) (fun _ _ _=>id) (AO rfl _ _ _ rfl (pq ga (kk*258)) (by simp [AF,AE,esz,e0,e5,e6,e7,AI]) (pq ga (kk*258+2)) (fun w'=>by go_simp)) hS ?_
     refine tk 16 (some 61) rfl rfl (by kernel_rfl) (fun _ _ _=>id) (BM rfl _ _ _ rfl (pq ga (kk*258+2)) (.int .i64 ((M+j:Nat):Int)) (by simp [AF,AE,esz,e0,e5,e6,e7,AI]) (by simp [AF,AE,esz,e0,e5,e6,e7,AI]) (pq ga (kk*258+2+(M+j))) (AB RJ)) hS ?_
     refine tk 17 (some 62) rfl rfl (by kernel_rfl) (fun _ _ _=>id) (AQ rfl _ _ rfl (pK ga (kk*258+2+(M+j))) (by simp [AF,AE,esz,e0,e5,e6,e7,AI]) (.int .u8 bv) (AB RB)) hS ?_
     refine tk 18 (some 63) rfl rfl (by kernel_rfl) (fun _ _ _=>id) (BM rfl _ _ _ rfl (pq QB 0) (.int .i64 (j:Int)) (by simp [AF,AE,esz,e0,e5,e6,e7,AI]) (by simp [AF,AE,esz,e0,e5,e6,e7,AI]) (pq QB j) (AB RK)) hS ?_
     refine Ef ?_
     intro A2 hA2
     have g63:A2.eval (.tmp 63)= pq QB j:=by rw [hA2];simp [AF,AE,esz,e0,e5,e6,e7,AI]
     have g62:A2.eval (.tmp 62)= .int .u8 bv:=by rw [hA2];simp [AF,AE,esz,e0,e5,e6,e7,AI]
     have HAC2:=AC hA2
     clear hA2
     refine rdy [19] (by kernel_rfl) (AllReadyH.cons rfl (fun K hK=> ?_) AllReadyH.nil)
     refine De rfl _ (.tmp 63) (.tmp 62) rfl (pK QB j) (.int .u8 bv) g63 g62 (AB HST) rfl ?_
     refine hK.out _ _ (AB HSN) (fun _=> ?_)
     clear hK K
     refine wpAnyH_done (by kernel_rfl) ?_ _
     rw [AB HAC2,AB HAC]
     simp only [Act.put,zm,zi,zj]
     clear RB RC RD RE RI RJ RK HSJ HSN HST HAC HAC2 g62 g63 e0 e5 e6 e7 esz hS HJ
     go_wp2
     exact ⟨⟨j+1,by omega,by simp,HJN⟩,by simp only [intOf];omega⟩
    ·have hje:j=4:=by omega
     subst hje
     have hbj:Below w2.heap.size w2 wr:=by rw [<-AB HQB];exact (AB HJ).1
     have hrj:=(AB HJ).2
     obtain ⟨b0,hb0⟩:∃b0,b0=Ap PS PC:=⟨_,rfl⟩
     obtain ⟨b1,hb1⟩:∃b1,b1=Ap PS (PC+1):=⟨_,rfl⟩
     obtain ⟨b2,hb2⟩:∃b2,b2=Ap PS (PC+2):=⟨_,rfl⟩
     obtain ⟨b3,hb3⟩:∃b3,b3=Ap PS (PC+3):=⟨_,rfl⟩
     have c0:wr.cell? (pK QB 0)=some (.int .u8 b0):=by rw [hb0];have:=hrj.cell (j:=0) rfl;rw [show PC=PC+0 by omega];exact this
     have c1:wr.cell? (pK QB 1)=some (.int .u8 b1):=by rw [hb1];exact hrj.cell (j:=1) rfl
     have c2:wr.cell? (pK QB 2)=some (.int .u8 b2):=by rw [hb2];exact hrj.cell (j:=2) rfl
     have c3:wr.cell? (pK QB 3)=some (.int .u8 b3):=by rw [hb3];exact hrj.cell (j:=3) rfl
     have hB3:=(AB HB2).trans (hbj.mono (AB HB2).size)
     have hI3:=(AB HI2).below hbj (AB HI2).lt
     have hbd:∀x:Int,0<=Ap PS x/\Ap PS x<=255:=F9 (AB HOK)
     have g0:=hbd PC
     have g1:=hbd (PC+1)
     have g2:=hbd (PC+2)
     have g3:=hbd (PC+3)
     rw [<-hb0] at g0
     rw [<-hb1] at g1
     rw [<-hb2] at g2
     rw [<-hb3] at g3
     have HNO:=AC (show AH PS PC=if b0<1\/24<b0 then (⟨0,0,0,0⟩,130) else (⟨b0,b1/16,b1%16,IntKind.i16.wrap (b2+b3*256)⟩,0) from by
      unfold AH
      rw [if_pos ⟨(AB HMM).symm,h4⟩,<-hb0,<-hb1,<-hb2,<-hb3])
     have HB3:=AC hB3
     have HI3:=AC hI3
     have hwl:w.heap.size<=wr.heap.size:=hB3.size
     clear hbj hrj hB3 hI3 hbd hb0 hb1 hb2 hb3 HJ HS2 HA2 HI2 HB2 HB5 HR5 HQ RS RP
     by_cases hg:b0<1\/24<b0
     ·have HDC:=AC (aJ b0 b1 b2 b3 wr hg)
      rw [if_pos hg] at HNO
      clear hg g0 g1 g2 g3
      go_wp2_with fail
      refine (AB HDC).mono ?_
      rintro e w6 ⟨rfl,hb6⟩
      obtain ⟨W7,hW7⟩:∃W7,W7=w6.alloc (Obj.cells #[.int .i64 0,.int .i64 0,.int .i64 0,.int .i64 0] 89):=⟨_,rfl⟩
      have hI7:AG W7 w.heap.size 89 [.int .i64 0,.int .i64 0,.int .i64 0,.int .i64 0]:=by rw [hW7];exact ((AB HI3).below hb6 (AB HI3).lt).alloc _
      have hN7:AG W7 w6.heap.size 89 [.int .i64 0,.int .i64 0,.int .i64 0,.int .i64 0]:=by rw [hW7];exact AG.new w6 89 _
      have hB7:Below w.heap.size w W7:=by rw [hW7];exact ((AB HB3).trans (hb6.mono (AB HB3).size)).alloc (by have:=hb6.size;omega) _
      obtain ⟨d0,d1,d2,d3⟩:=ID hI7 (.int .i64 0) (.int .i64 0) (.int .i64 0) (.int .i64 0)
      unfold Q5 at d0 d1 d2 d3
      have HBZ:=AC (GN hB7 (zx _) (.int .i64 0) (.int .i64 0) (.int .i64 0) (.int .i64 0))
      have x0:=hI7.cell (j:=0) rfl
      have x1:=hI7.cell (j:=1) rfl
      have x2:=hI7.cell (j:=2) rfl
      have x3:=hI7.cell (j:=3) rfl
      have f0:=hI7.frozen 0
      have f1:=hI7.frozen 1
      have f2:=hI7.frozen 2
      have f3:=hI7.frozen 3
      have y0:=hN7.cell (j:=0) rfl
      have y1:=hN7.cell (j:=1) rfl
      have y2:=hN7.cell (j:=2) rfl
      have y3:=hN7.cell (j:=3) rfl
      have HW7:=AC hW7
      clear hW7 hI7 hN7 hB7 hb6 HDC c0 c1 c2 c3 hwl
      go_upto_region 11 with fail
      rw [<-AB HW7]
      clear HW7
      go_wp2
      exact bodyPost_ret (v:= .tuple #[.agg #[.int .i64 0,.int .i64 0,.int .i64 0,.int .i64 0],.int .i64 130]) (by simp [results,Tryz.results21,go_sem,d0,d1,d2,d3]) rfl ⟨by rw [AB HNO];rfl,AB HBZ⟩
     ·have HDC:=AC (YF b0 b1 b2 b3 wr (by omega) (by omega) g1.1 g1.2 g2.1 g2.2 g3.1 g3.2)
      rw [if_neg hg] at HNO
      clear hg g0 g1 g2 g3
      go_wp2_with fail
      refine (AB HDC).mono ?_
      rintro e w6 ⟨rfl,hb6⟩
      obtain ⟨W7,hW7⟩:∃W7,W7=w6.alloc (Obj.cells #[.int .i64 b0,.int .i64 (b1/16),.int .i64 (b1%16),.int .i64 (IntKind.i16.wrap (b2+b3*256))] 89):=⟨_,rfl⟩
      have hI7:AG W7 w.heap.size 89 [.int .i64 0,.int .i64 0,.int .i64 0,.int .i64 0]:=by rw [hW7];exact ((AB HI3).below hb6 (AB HI3).lt).alloc _
      have hN7:AG W7 w6.heap.size 89 [.int .i64 b0,.int .i64 (b1/16),.int .i64 (b1%16),.int .i64 (IntKind.i16.wrap (b2+b3*256))]:=by rw [hW7];exact AG.new w6 89 _
      have hB7:Below w.heap.size w W7:=by rw [hW7];exact ((AB HB3).trans (hb6.mono (AB HB3).size)).alloc (by have:=hb6.size;omega) _
      obtain ⟨d0,d1,d2,d3⟩:=ID hI7 (.int .i64 b0) (.int .i64 (b1/16)) (.int .i64 (b1%16)) (.int .i64 (IntKind.i16.wrap (b2+b3*256)))
      unfold Q5 at d0 d1 d2 d3
      have HBZ:=AC (GN hB7 (zx _) (.int .i64 b0) (.int .i64 (b1/16)) (.int .i64 (b1%16)) (.int .i64 (IntKind.i16.wrap (b2+b3*256))))
      have x0:=hI7.cell (j:=0) rfl
      have x1:=hI7.cell (j:=1) rfl
      have x2:=hI7.cell (j:=2) rfl
      have x3:=hI7.cell (j:=3) rfl
      have f0:=hI7.frozen 0
      have f1:=hI7.frozen 1
      have f2:=hI7.frozen 2
      have f3:=hI7.frozen 3
      have y0:=hN7.cell (j:=0) rfl
      have y1:=hN7.cell (j:=1) rfl
      have y2:=hN7.cell (j:=2) rfl
      have y3:=hN7.cell (j:=3) rfl
      have HW7:=AC hW7
      clear hW7 hI7 hN7 hB7 hb6 HDC c0 c1 c2 c3 hwl
      go_upto_region 11 with fail
      rw [<-AB HW7]
      clear HW7
      go_wp2
      exact bodyPost_ret (v:= .tuple #[.agg #[.int .i64 b0,.int .i64 (b1/16),.int .i64 (b1%16),.int .i64 (IntKind.i16.wrap (b2+b3*256))],.int .i64 0]) (by simp [results,Tryz.results21,go_sem,d0,d1,d2,d3]) rfl ⟨by rw [AB HNO];rfl,AB HBZ⟩
  ·have k4:(PC.tmod 4==0)=false:=by rw [ht4];simpa using h4
   obtain ⟨d0,d1,d2,d3⟩:=ID (AB HI1) (.int .i64 0) (.int .i64 0) (.int .i64 0) (.int .i64 0)
   unfold Q5 at d0 d1 d2 d3
   have HBZ:=AC (GN (AB HB1) (zx _) (.int .i64 0) (.int .i64 0) (.int .i64 0) (.int .i64 0))
   have HNX:=AC (show AH PS PC=(⟨0,0,0,0⟩,129) from by unfold AH;rw [if_neg (fun q=>h4 q.2)])
   go_wp2
   exact bodyPost_ret (v:= .tuple #[.agg #[.int .i64 0,.int .i64 0,.int .i64 0,.int .i64 0],.int .i64 129]) (by simp [results,Tryz.results21,go_sem,d0,d1,d2,d3]) rfl ⟨by rw [AB HNX];rfl,AB HBZ⟩
theorem Wb {PS:List Pg} {addr n perm:Int} (h0:0<=addr) (hn:1<=n) (h:Bs PS addr n perm=true):addr+n<=65536/\∀j:Int,0<=j->j<n->Do PS perm ((addr+j)/256)=true:=by
 unfold Bs at h
 rw [if_neg (by omega)] at h
 split at h
 ·cases h
 ·rename_i hc
  refine ⟨by omega,fun j hj0 hj1=> ?_⟩
  have h1:=zb.1 h ((addr+j)/256-addr/256).toNat (zg.2 (by omega))
  rw [show addr/256+((((addr+j)/256-addr/256).toNat:Nat):Int)=(addr+j)/256 by omega] at h1
  exact h1
theorem Np {PS:List Pg} {perm n:Int} (h:Do PS perm n=true):∃(k:Nat) (q:Pg),I3 PS n=k/\PS[k]? =some q/\PS.find? (fun p=>p.num==n)=some q:=by
 rcases J1 PS n with ⟨_,hf⟩|⟨k,q,a,b,c,_⟩
 ·unfold Do at h;rw [hf] at h;cases h
 ·exact ⟨k,q,a,b,c⟩
def Bd (PS:List Pg) (addr:Int) (n:Nat):List Int:=(List.range n).map fun i:Nat=>Ap PS (addr+(i:Int))
theorem Nq (PS:List Pg) (addr:Int) (n:Nat):AJ (Bd PS addr (n+1))=AJ (Bd PS addr n)++[.int .u8 (Ap PS (addr+(n:Int)))]:=by
 unfold Bd AJ
 rw [List.range_succ]
 simp
theorem Ox (PS:List Pg) (addr:Int) (n:Nat):(Bd PS addr n).length=n:=by simp [Bd]
theorem cz:(Tryz.prog.info? 5).map (fun i=>(i.zero,i.size,i.bytes))=some (some (.int .u8 0),1,1):=by kernel_rfl
theorem YH {w:World} {ga:Nat} {PS:List Pg} (hA:Dq w ga PS) (hok:∀q∈PS,q.bytes.length=256/\AY q.bytes) {x:Int} (h0:0<=x) {k:Nat} {q:Pg} (hk:PS[k]? =some q) (hf:PS.find? (fun p=>p.num==x/256)=some q) {M:Nat} (hM:(M:Int)=x%256):w.cell? (pK ga (k*258+2+M))=some (.int .u8 (Ap PS x)):=by
 refine (hA k q hk).2.2 M _ ?_
 have hl:=(hok q (zv hk)).1
 rw [AT _ _ (by omega)]
 unfold Ap
 rw [hf]
 show some (Value.int .u8 (q.bytes.getD M 0))=some (.int .u8 (q.bytes.getD (x%256).toNat 0))
 rw [show (x%256).toNat=M by omega]
theorem aK (aa:Option Addr) (ga ca:Nat) (PS:List Pg) (addr perm:Int) (n:Nat) (w:World) (ha:0<PS.length->aa=some (pK ga 0)) (hA:Dq w ga PS) (hgl:ga<w.heap.size) (hn:PS.length<=100000) (hok:∀q∈PS,q.bytes.length=256/\AY q.bytes) (h0:0<=addr) (hn1:1<=n) (hm:Bs PS addr n perm=true):
  Calls Tryz.prog 101 #[.slice aa PS.length ca,.int .u64 addr,.int .i64 n] w fun e w'=>∃v,e= .returned v/\w'.ownsRow w.heap.size 5 1 v n (AJ (Bd PS addr n))/\Below w.heap.size w w':=by
 obtain ⟨hsum,hall⟩:=Wb h0 (by omega) hm
 obtain ⟨i0,hi0,hz0,hz1,hz2⟩:=Eu cz
 have HI:=AC (And.intro hi0 (And.intro hz0 (And.intro hz1 hz2)))
 have HAL:=AC hall
 have HA:=AC hA
 have HAA:=AC ha
 have HOK:=AC hok
 clear hall hA ha hok hi0 hz0 hz1 hz2 hm
 go_enter Tryz.func101,Tryz.ntmps101
 go_wp2
 go_loopw [7,8] (fun v i wr=>∃j:Nat,j<=n/\i= .int .i64 j/\Hid (wr.ownsRow w.heap.size 5 1 v j (AJ (Bd PS addr j)))/\Hid (Below w.heap.size w wr)) (fun _ i _=>n-(intOf i).toNat)
 case atStart=>exact ⟨0,by omega,rfl,AC (World.ownsRow_nil _ _ _ _),AC (zw _ _)⟩
 case round=>
  obtain ⟨j,hj,rfl,HOW,HBL⟩:=hrel
  by_cases hlt:j<n
  ·obtain ⟨k,q,hk,hkq,hf⟩:=Np (AB HAL (j:Int) (by omega) (by omega))
   have hkl:=(zy.1 hkq).1
   obtain rfl:=AB HAA (by omega)
   obtain ⟨X,hX⟩:∃X:Nat,(X:Int)=addr+(j:Int):=⟨(addr+j).toNat,by omega⟩
   obtain ⟨M,hM⟩:∃M:Nat,(M:Int)=(X:Int)%256:=⟨X%256,by omega⟩
   have HF:=AC (Kg (some (pK ga 0)) ga ca PS ((X:Int)/256) wr (fun _=>rfl) ((AB HA).below (AB HBL)) hn)
   rw [show I3 PS ((X:Int)/256)=k by rw [hX];exact hk] at HF
   have hx1:addr+(j:Int)=(X:Int):=hX.symm
   have hx2:(X:Int)<=65535:=by omega
   have y1:IntKind.i64.wrap (X:Int)=(X:Int):=by rw [yl]<;>omega
   have y2:(X:Int).tdiv 256=(X:Int)/256:=Int.tdiv_eq_ediv_of_nonneg (by omega)
   have y3:(X:Int).tmod 256=(M:Int):=by rw [hM];exact yn (by omega)
   have y4:IntKind.i64.wrap ((X:Int)/256)=(X:Int)/256:=by rw [yl]<;>omega
   have y5:IntKind.i64.wrap (M:Int)=(M:Int):=by rw [yl]<;>omega
   have ha2:addr<=65535:=by omega
   have hk0:(0:Int)<=(k:Int):=by omega
   have hk1:(k:Int)<(PS.length:Int):=by omega
   have HQ:=AC (And.intro hkq hf)
   have HXM:=AC (And.intro hX hM)
   have hmz:(0:Int)<=(M:Int):=by omega
   have hm2:(M:Int)<256:=by omega
   clear hk hkq hf hX hM
   go_wp2_with fail
   refine (AB HF).mono ?_
   rintro e w1 ⟨rfl,hh1,hb1⟩
   obtain ⟨bv,hbv⟩:∃bv,bv=Ap PS (addr+(j:Int)):=⟨_,rfl⟩
   have hB1:=(AB HBL).trans (hb1.mono (AB HBL).size)
   have cb:w1.cell? (pK ga (k*258+2+M))=some (.int .u8 bv):=by
    have hxm:=AB HXM
    rw [hbv,<-hxm.1]
    exact YH ((AB HA).below hB1) (AB HOK) (by omega) (AB HQ).1 (by rw [hxm.1];exact (AB HQ).2) hxm.2
   have how1:=BO (AB HOW) (AC hb1)
   have HO1:=AC how1
   have HB1:=AC hB1
   have HBV:=AC hbv
   have hsz:=hB1.size
   clear hh1 hb1 hB1 how1 hbv HF HOW HBL hx1
   go_wp2_with (at_builtin;refine wpList_append_lies _ (by rfl) _ _ 32 (by rfl) w.heap.size 5 i0 _ 1 1 Tryz.underlying32 (AB HI).1 (AB HI).2.1 (AB HI).2.2.1 (AB HI).2.2.2 rfl (by decide) _ _ _ (by rfl) ((AB HO1).alloc _) (pK w1.heap.size 0) 1 1 [.int .u8 bv] (by rfl) (by rfl) (World.news_of_block (cs:=#[.int .u8 bv]) (t:=5) (fr:=(0,0)) (heap_alloc_new w1 _)) (by simp [Value.oneCell']) (by omega) (by unfold maxLen;omega) (by omega) (by simp;omega) (w1.heap.size+1) (by simp) ?_;intro g cap5 w5 hown5 hgrow5 hat5 hlt5)
   have hB5:Below w.heap.size w w5:=((AB HB1).alloc (by omega) _).grown hgrow5 (by simp;omega) (by intro q h;have:=(AB HO1).lt q h;omega)
   exact ⟨⟨j+1,by omega,by simp,AC (by rw [Nq,<-AB HBV];exact hown5),AC hB5⟩,by simp only [intOf];omega⟩
  ·have hje:j=n:=by omega
   subst hje
   go_wp2
   go_ret
   exact ⟨_,rfl,AB HOW,AB HBL⟩
def E9 (PS:List Pg):List (Int×Int×Nat):=PS.map fun p=>(p.num,p.perm,p.bytes.length)
def DV (PS:List Pg) (x v:Int):List Pg:=match PS.findIdx? (fun p=>p.num==x/256) with
 |some k=>match PS[k]? with
  |some q=>PS.set k ⟨q.num,q.perm,q.bytes.set (x%256).toNat v⟩
  |none=>PS
 |none=>PS
def Bu (PS:List Pg) (addr:Int) (L:List Int):Nat->List Pg
 |0=>PS
 |j+1=>DV (Bu PS addr L j) (addr+(j:Int)) (L.getD j 0)
theorem J3 (PS:List Pg) (x v:Int):E9 (DV PS x v)=E9 PS:=by
 unfold DV
 split
 ·rename_i k _
  split
  ·rename_i q hq
   unfold E9
   rw [List.map_set]
   show (PS.map _).set k (q.num,q.perm,(q.bytes.set (x%256).toNat v).length)=_
   rw [yx]
   have hk:=(zy.1 hq)
   apply List.ext_getElem?
   intro i
   by_cases e:k=i
   ·subst e
    rw [List.getElem?_set_self (by simpa using hk.1),ze,hq]
    rfl
   ·rw [List.getElem?_set_ne e]
  ·rfl
 ·rfl
theorem E6 (PS:List Pg) (addr:Int) (L:List Int):∀j,E9 (Bu PS addr L j)=E9 PS
 |0=>rfl
 |j+1=>(J3 _ _ _).trans (E6 PS addr L j)
theorem Ps (PS:List Pg) (n:Int):PS.findIdx? (fun p=>p.num==n)=(E9 PS).findIdx? (fun t=>t.1==n):=by
 unfold E9
 rw [List.findIdx?_map]
 rfl
theorem VE {PS QS:List Pg} (h:E9 PS=E9 QS) (n:Int):I3 PS n=I3 QS n:=by
 unfold I3
 rw [Ps,Ps,h]
theorem JM {PS QS:List Pg} (h:E9 PS=E9 QS):PS.length=QS.length:=by
 have:=congrArg List.length h
 simpa [E9] using this
theorem GO {PS QS:List Pg} (h:E9 PS=E9 QS) {k:Nat} {q:Pg} (hq:QS[k]? =some q):∃p,PS[k]? =some p/\p.num=q.num/\p.perm=q.perm/\p.bytes.length=q.bytes.length:=by
 have h1:(E9 QS)[k]? =some (q.num,q.perm,q.bytes.length):=by unfold E9;rw [ze,hq];rfl
 rw [<-h] at h1
 unfold E9 at h1
 rw [ze] at h1
 cases hp:PS[k]? with
 |none=>rw [hp] at h1;cases h1
 |some p=>
  rw [hp] at h1
  have h2:=zr h1
  exact ⟨p,rfl,congrArg (·.1) h2,congrArg (·.2.1) h2,congrArg (·.2.2) h2⟩
theorem dA {PS:List Pg} {x v:Int} {k:Nat} {q:Pg} (hk:I3 PS (x/256)=k) (hq:PS[k]? =some q) {M:Nat} (hM:(M:Int)=x%256):DV PS x v=PS.set k ⟨q.num,q.perm,q.bytes.set M v⟩:=by
 unfold DV
 unfold I3 at hk
 cases hf:PS.findIdx? (fun p=>p.num==x/256) with
 |none=>rw [hf] at hk;exact absurd hk (show ¬(-1:Int)=(k:Int) by omega)
 |some k'=>
  rw [hf] at hk
  have e:k'=k:=by have:((k':Nat):Int)=(k:Int):=hk;omega
  subst e
  show (match PS[k']? with|some q=>PS.set k' ⟨q.num,q.perm,q.bytes.set (x%256).toNat v⟩|none=>PS)=_
  rw [hq,show (x%256).toNat=M by omega]
theorem Dq.heap {w w':World} {g:Nat} {PS:List Pg} (h:Dq w g PS) (hh:w'.heap=w.heap):Dq w' g PS:=fun i p hp=>by
 have hc:∀a,w'.cell? a=w.cell? a:=fun a=>by unfold World.cell?;rw [hh]
 obtain ⟨a,b,c⟩:=h i p hp
 exact ⟨by rw [hc];exact a,by rw [hc];exact b,fun j v hv=>by rw [hc];exact c j v hv⟩
theorem Dq.poke {w:World} {ga:Nat} {PS:List Pg} (h:Dq w ga PS) {k M:Nat} {q:Pg} (hq:PS[k]? =some q) (hM:M<q.bytes.length) (hl:q.bytes.length=256) (hall:∀p∈PS,p.bytes.length=256) (v:Int):Dq (w.setCell (pK ga (k*258+2+M)) (.int .u8 v)) ga (PS.set k ⟨q.num,q.perm,q.bytes.set M v⟩):=by
 have hc:w.cell? (pK ga (k*258+2+M))=some (.int .u8 (q.bytes.getD M 0)):=(h k q hq).2.2 M _ (AT _ _ hM)
 have hoth:∀o:Nat,o≠k*258+2+M->∀x,w.cell? (pK ga o)=some x->(w.setCell (pK ga (k*258+2+M)) (.int .u8 v)).cell? (pK ga o)=some x:=fun o ho x hx=>by
  rw [z7 _ _ _ _ (by simp<;>omega)];exact hx
 intro i p hp
 by_cases e:k=i
 ·subst e
  rw [List.getElem?_set_self (zy.1 hq).1] at hp
  obtain rfl:=zr hp
  obtain ⟨a,b,c⟩:=h k q hq
  refine ⟨hoth _ (by omega) _ a,hoth _ (by omega) _ b,fun j x hx=> ?_⟩
  show (w.setCell (pK ga (k*258+2+M)) (.int .u8 v)).cell? (pK ga (k*258+2+j))=some x
  have hx:(AJ (q.bytes.set M v))[j]? =some x:=hx
  rw [<-Co] at hx
  by_cases ej:M=j
  ·subst ej
   rw [List.getElem?_set_self (by rw [AM];exact hM)] at hx
   obtain rfl:=zr hx
   exact z8 _ _ _ hc
  ·rw [List.getElem?_set_ne ej] at hx
   exact hoth _ (by omega) _ (c j x hx)
 ·rw [List.getElem?_set_ne e] at hp
  obtain ⟨a,b,c⟩:=h i p hp
  have hpl:=hall p (zv hp)
  refine ⟨hoth _ (by omega) _ a,hoth _ (by omega) _ b,fun j x hx=> ?_⟩
  have hj:j<256:=by have:=(zy.1 hx).1;rw [AM,hpl] at this;exact this
  exact hoth _ (by omega) _ (c j x hx)
def Pt (bb x:Nat) (v:Int) (w:World):Prop:=w.cell? (pK bb x)=some (.int .u8 v)
theorem aL (aa:Option Addr) (ga ca bb bo bc:Nat) (PS:List Pg) (addr perm:Int) (L:List Int) (w:World) (ha:0<PS.length->aa=some (pK ga 0)) (hA:Dq w ga PS) (hfz:∀i,w.frozen? (pK ga i)=false) (hn:PS.length<=100000) (hok:∀q∈PS,q.bytes.length=256) (h0:0<=addr) (hn1:1<=L.length) (hm:Bs PS addr L.length perm=true) (hv:BC w bb bo L) (hbg:bb≠ga) (hbw:bb<w.heap.size):
  Calls Tryz.prog 146 #[.slice aa PS.length ca,.int .u64 addr,.slice (some (pK bb bo)) L.length bc] w fun e w'=>e= .returned (.tuple #[])/\Dq w' ga (Bu PS addr L L.length)/\(∀i,w'.frozen? (pK ga i)=false)/\w.grownBy w' (some ga):=by
 obtain ⟨hsum,hall⟩:=Wb h0 (by omega) hm
 have HAL:=AC hall
 have HAA:=AC ha
 have HOK:=AC hok
 have HV:=AC hv
 have H0:=AC (And.intro hA hfz)
 clear hall hA ha hok hm hv hfz
 go_enter Tryz.func146,Tryz.ntmps146
 go_wp2
 go_loopw [6] (fun i wr=>∃j:Nat,j<=L.length/\i= .int .i64 j/\Hid (Dq wr ga (Bu PS addr L j)/\(∀i,wr.frozen? (pK ga i)=false))/\Hid (w.grownBy wr (some ga))) (fun i _=>L.length-(intOf i).toNat)
 case atStart=>exact ⟨0,by omega,rfl,H0,AC (zk _ _)⟩
 case round=>
  obtain ⟨j,hj,rfl,HR,HG⟩:=hrel
  by_cases hlt:j<L.length
  ·obtain ⟨k,q,hk,hkq,hf⟩:=Np (AB HAL (j:Int) (by omega) (by omega))
   have hkl:=(zy.1 hkq).1
   obtain rfl:=AB HAA (by omega)
   have hsh:=E6 PS addr L j
   obtain ⟨p,hp,hp1,hp2,hp3⟩:=GO hsh hkq
   have hpl:p.bytes.length=256:=by rw [hp3];exact AB HOK q (zv hkq)
   have hall:∀p∈Bu PS addr L j,p.bytes.length=256:=fun p' hp'=>by
    obtain ⟨i,hi,hpi⟩:=List.mem_iff_getElem.1 hp'
    obtain ⟨q',hq',_,_,e⟩:=GO hsh.symm (show (Bu PS addr L j)[i]? =some p' by rw [zz hi,hpi])
    rw [<-e]
    exact AB HOK q' (zv hq')
   obtain ⟨X,hX⟩:∃X:Nat,(X:Int)=addr+(j:Int):=⟨(addr+j).toNat,by omega⟩
   obtain ⟨M,hM⟩:∃M:Nat,(M:Int)=(X:Int)%256:=⟨X%256,by omega⟩
   have hk':I3 (Bu PS addr L j) ((X:Int)/256)=k:=by rw [VE hsh,hX];exact hk
   have hln:(Bu PS addr L j).length=PS.length:=JM hsh
   have HF:=AC (Kg (some (pK ga 0)) ga ca (Bu PS addr L j) ((X:Int)/256) wr (fun _=>rfl) (AB HR).1 (by omega))
   rw [hk',hln] at HF
   obtain ⟨bv,hbv⟩:∃bv,bv=L.getD j 0:=⟨_,rfl⟩
   have hnx:Bu PS addr L (j+1)=(Bu PS addr L j).set k ⟨p.num,p.perm,p.bytes.set M bv⟩:=by
    rw [hbv]
    exact dA (x:=addr+(j:Int)) (by rw [<-hX];exact hk') hp (by rw [hM,hX])
   have hcb:wr.cell? (pK bb (bo+j))=some (.int .u8 bv):=by rw [hbv];exact (AB HG).cell (AB HV j hlt) (by simpa using hbg)
   have hce:wr.cell? (pK ga (k*258+2+M))=some (.int .u8 (p.bytes.getD M 0)):=((AB HR).1 k p hp).2.2 M _ (AT _ _ (by omega))
   have y1:IntKind.i64.wrap (X:Int)=(X:Int):=by rw [yl]<;>omega
   have y2:(X:Int).tdiv 256=(X:Int)/256:=Int.tdiv_eq_ediv_of_nonneg (by omega)
   have y4:IntKind.i64.wrap ((X:Int)/256)=(X:Int)/256:=by rw [yl]<;>omega
   have hx1:addr+(j:Int)=(X:Int):=hX.symm
   have hx2:(X:Int)<=65535:=by omega
   have ha2:addr<=65535:=by omega
   have HX:=AC (show Bu PS addr L (j+1)=(Bu PS addr L j).set k ⟨p.num,p.perm,p.bytes.set M bv⟩/\(Bu PS addr L j)[k]? =some p/\p.bytes.length=256/\(∀p∈Bu PS addr L j,p.bytes.length=256)/\M<256/\(X:Int).tmod 256=(M:Int) from ⟨hnx,hp,hpl,hall,by omega,by rw [hM];exact yn (by omega)⟩)
   have HC:=AC (And.intro hcb hce)
   have hk0:(0:Int)<=(k:Int):=by omega
   have hk1:(k:Int)<(PS.length:Int):=by omega
   clear hsh hp hp1 hp2 hp3 hpl hall hX hM hk' hln hnx hcb hce hk hkq hf hbv
   go_wp2_with fail
   refine (AB HF).mono ?_
   rintro e w1 ⟨rfl,hh1,hb1⟩
   have hx:=AB HX
   have hbd:Below wr.heap.size wr w1.drew:=⟨hb1.os,hb1.tape,hb1.output,hb1.size,hb1.block⟩
   have hdh:w1.drew.heap=wr.heap:=hh1
   have hS1:Pt bb (bo+j) bv w1:=by unfold Pt World.cell?;rw [hh1];exact (AB HC).1
   have hst:(Instr.storeAt 5 (pq ga (k*258+2+M)) (.int .u8 bv)).run Tryz.prog w1.drew= .ok () (w1.drew.setCell (pK ga (k*258+2+M)) (.int .u8 bv)):=by
    have c:w1.drew.cell? (pK ga (k*258+2+M))=some (.int .u8 (p.bytes.getD M 0)):=by unfold World.cell?;rw [hdh];exact (AB HC).2
    have f:w1.drew.frozen? (pK ga (k*258+2+M))=false:=by unfold World.frozen?;rw [hdh];exact (AB HR).2 (k*258+2+M)
    clear hS1 hbd hdh hx hh1 hb1 HX HC HR HG HV HOK HAL HF
    go_simp
   obtain ⟨wn,hwn⟩:∃wn,wn=w1.drew.setCell (pK ga (k*258+2+M)) (.int .u8 bv):=⟨_,rfl⟩
   rw [<-hwn] at hst
   have hG1:w.grownBy w1.drew (some ga):=⟨hbd.os.trans (AB HG).os,hbd.tape.trans (AB HG).tape,hbd.output.trans (AB HG).output,zh (AB HG).size hbd.size,fun i hi hne=>(hbd.block i (by have:=(AB HG).size;omega)).trans ((AB HG).block i hi hne)⟩
   have HN:=AC (show (Dq wn ga (Bu PS addr L (j+1))/\(∀i,wn.frozen? (pK ga i)=false))/\w.grownBy wn (some ga) from by
    rw [hwn,hx.1]
    refine ⟨⟨Dq.poke ((AB HR).1.heap hdh) hx.2.1 (by rw [hx.2.2.1];exact hx.2.2.2.2.1) hx.2.2.1 hx.2.2.2.1 bv,fun i=> ?_⟩,AS hG1 _ _⟩
    have f:w1.drew.frozen? (pK ga i)=false:=by unfold World.frozen?;rw [hdh];exact (AB HR).2 i
    simpa using f)
   have hSn:Pt bb (bo+j) bv wn:=by
    rw [hwn]
    exact (AS (zk w1.drew (some ga)) (k*258+2+M) (.int .u8 bv)).cell (show w1.drew.cell? (pK bb (bo+j))=some (.int .u8 bv) from hS1) (by simpa using hbg)
   have hmt:=hx.2.2.2.2.2
   have hmz:(0:Int)<=(M:Int):=by omega
   have hm2:(M:Int)<256:=by have:=hx.2.2.2.2.1;omega
   have hj0:(0:Int)<=(j:Int):=by omega
   have hj1:(j:Int)<(L.length:Int):=by omega
   have RB:=AC (show ∀w':World,Pt bb (bo+j) bv w'->(Instr.loadAt 5 (pq bb (bo+j))).run Tryz.prog w'= .ok (.int .u8 bv) w' from fun w' c=>by
    unfold Pt at c
    clear hS1 hSn hbd hdh hx hh1 hb1 HX HC HR HG HV HOK HAL HF hst HN hG1 hwn
    go_simp)
   have RD:=AC (show ∀w':World,((do eqGuard .rem 3 (.tmp 25) (.const (.int .i64 256)) (.int .i64 (X:Int)) (.int .i64 256);binOp .rem 3 (.int .i64 (X:Int)) (.int .i64 256):Sem Value)).run Tryz.prog w'= .ok (.int .i64 (M:Int)) w' from fun w'=>by
    have y5:IntKind.i64.wrap (M:Int)=(M:Int):=by rw [yl]<;>omega
    clear hS1 hSn hbd hdh hx hh1 hb1 HX HC HR HG HV HOK HAL HF hst HN hG1 hwn RB hx1
    go_simp)
   have RI:=AC (show ∀w':World,(Instr.indexAt 77 (.slice (some (pK ga 0)) PS.length ca) (.int .i64 (k:Int))).run Tryz.prog w'= .ok (pq ga (k*258)) w' from fun w'=>by
    clear hS1 hSn hbd hdh hx hh1 hb1 HX HC HR HG HV HOK HAL HF hst HN hG1 hwn RB RD hx1
    go_simp)
   have RJ:=AC (show ∀w':World,(Instr.indexAt 136 (pq ga (k*258+2)) (.int .i64 (M:Int))).run Tryz.prog w'= .ok (pq ga (k*258+2+M)) w' from fun w'=>by
    clear hS1 hSn hbd hdh hx hh1 hb1 HX HC HR HG HV HOK HAL HF hst HN hG1 hwn RB RD RI hx1 hmt
    go_simp)
   have RK:=AC (show ∀w':World,(Instr.indexAt 32 (.slice (some (pK bb bo)) L.length bc) (.int .i64 (j:Int))).run Tryz.prog w'= .ok (pq bb (bo+j)) w' from fun w'=>by
    clear hS1 hSn hbd hdh hx hh1 hb1 HX HC HR HG HV HOK HAL HF hst HN hG1 hwn RB RD RI RJ hx1 hmt
    go_simp)
   have HS1:=AC hS1
   have HSN:=AC hSn
   have HST:=AC hst
   clear hS1 hSn hst hG1 hwn hbd hdh hx hh1 hb1 hmt HX HC HF
   go_upto_region 5 with fail
   refine BA ?_
   intro A hA
   have e0:A.eval (.tmp 0)= .slice (some (pK ga 0)) PS.length ca:=by rw [hA];rfl
   have e2:A.eval (.tmp 2)= .slice (some (pK bb bo)) L.length bc:=by rw [hA];rfl
   have e6:A.eval (.tmp 6)= .int .i64 (j:Int):=by rw [hA];rfl
   have e7:A.eval (.tmp 7)= .int .i64 (X:Int):=by rw [hA];rfl
   have e8:A.eval (.tmp 8)= .int .i64 (k:Int):=by rw [hA];rfl
   have esz:A.tmps.size=34:=by rw [hA];rfl
   have HAC:=AC hA
   clear hA
   refine wp_region_held_drew (S:=Pt bb (bo+j) bv) (by kernel_rfl) (AB HS1) (fun hS=> ?_)
   refine tk 0 (some 23) rfl rfl (by kernel_rfl) (fun _ _ _=>id) (AK rfl _ rfl (.slice (some (pK ga 0)) PS.length ca) (by simp [AF,AE,esz,e0,e2,e6,e7,e8,AI])) hS ?_
   refine tk 1 (some 24) rfl rfl (by kernel_rfl) (fun _ _ _=>id) (AK rfl _ rfl (.int .i64 (k:Int)) (by simp [AF,AE,esz,e0,e2,e6,e7,e8,AI])) hS ?_
   refine tk 2 (some 25) rfl rfl (by kernel_rfl) (fun _ _ _=>id) (AK rfl _ rfl (.int .i64 (X:Int)) (by simp [AF,AE,esz,e0,e2,e6,e7,e8,AI])) hS ?_
   refine tk 3 (some 26) rfl rfl (by kernel_rfl) (fun _ _ _=>id) (B7 rfl .rem _ _ (.tmp 25) (.const (.int .i64 256)) rfl (.int .i64 (X:Int)) (.int .i64 256) (by simp [AF,AE,esz,e0,e2,e6,e7,e8,AI]) rfl (.int .i64 (M:Int)) (AB RD)) hS ?_
   refine tk 4 (some 27) rfl rfl (by kernel_rfl) (fun _ _ _=>id) (AK rfl _ rfl (.slice (some (pK bb bo)) L.length bc) (by simp [AF,AE,esz,e0,e2,e6,e7,e8,AI])) hS ?_
   refine tk 5 (some 28) rfl rfl (by kernel_rfl) (fun _ _ _=>id) (AK rfl _ rfl (.int .i64 (j:Int)) (by simp [AF,AE,esz,e0,e2,e6,e7,e8,AI])) hS ?_
   refine tk 6 (some 29) rfl rfl (by kernel_rfl) (fun _ _ _=>id) (BM rfl _ _ _ rfl (.slice (some (pK bb bo)) L.length bc) (.int .i64 (j:Int)) (by simp [AF,AE,esz,e0,e2,e6,e7,e8,AI]) (by simp [AF,AE,esz,e0,e2,e6,e7,e8,AI]) (pq bb (bo+j)) (AB RK)) hS ?_
   refine tk 7 (some 30) rfl rfl (by kernel_rfl) (fun _ _ _=>id) (AQ rfl _ _ rfl (pK bb (bo+j)) (by simp [AF,AE,esz,e0,e2,e6,e7,e8,AI]) (.int .u8 bv) (AB RB)) hS ?_
   refine tk 8 (some 31) rfl rfl (by kernel_rfl) (fun _ _ _=>id) (BM rfl _ _ _ rfl (.slice (some (pK ga 0)) PS.length ca) (.int .i64 (k:Int)) (by simp [AF,AE,esz,e0,e2,e6,e7,e8,AI]) (by simp [AF,AE,esz,e0,e2,e6,e7,e8,AI]) (pq ga (k*258)) (AB RI)) hS ?_
   refine tk 9 (some 32) rfl rfl (by kernel_rfl) (fun _ _ _=>id) (AO rfl _ _ _ rfl (pq ga (k*258)) (by simp [AF,AE,esz,e0,e2,e6,e7,e8,AI]) (pq ga (k*258+2)) (fun w'=>by go_simp)) hS ?_
   refine tk 10 (some 33) rfl rfl (by kernel_rfl) (fun _ _ _=>id) (BM rfl _ _ _ rfl (pq ga (k*258+2)) (.int .i64 (M:Int)) (by simp [AF,AE,esz,e0,e2,e6,e7,e8,AI]) (by simp [AF,AE,esz,e0,e2,e6,e7,e8,AI]) (pq ga (k*258+2+M)) (AB RJ)) hS ?_
   refine Ef ?_
   intro A2 hA2
   have g33:A2.eval (.tmp 33)= pq ga (k*258+2+M):=by rw [hA2];simp [AF,AE,esz,e0,e2,e6,e7,e8,AI]
   have g30:A2.eval (.tmp 30)= .int .u8 bv:=by rw [hA2];simp [AF,AE,esz,e0,e2,e6,e7,e8,AI]
   have HAC2:=AC hA2
   clear hA2
   refine rdy [11] (by kernel_rfl) (AllReadyH.cons rfl (fun K hK=> ?_) AllReadyH.nil)
   refine De rfl _ (.tmp 33) (.tmp 30) rfl (pK ga (k*258+2+M)) (.int .u8 bv) g33 g30 (AB HST) rfl ?_
   refine hK.out _ _ (AB HSN) (fun _=> ?_)
   clear hK K
   refine wpAnyH_done (by kernel_rfl) ?_ _
   rw [AB HAC2,AB HAC]
   simp only [Act.put,zm,zi,zj]
   clear RB RD RI RJ RK HS1 HSN HST HAC HAC2 g33 g30 e0 e2 e6 e7 e8 esz hS HR HG
   go_wp2
   exact ⟨⟨j+1,by omega,by simp,AC (AB HN).1,AC (AB HN).2⟩,by simp only [intOf];omega⟩
  ·have hje:j=L.length:=by omega
   subst hje
   go_wp2
   go_end0
   exact ⟨rfl,(AB HR).1,(AB HR).2,AB HG⟩
end Go.Proofs.YtdchgbmliojoiaaGreatDoor
