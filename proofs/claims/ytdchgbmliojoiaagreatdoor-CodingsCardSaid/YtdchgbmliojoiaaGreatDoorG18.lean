import Derived.Test.YtdchgbmliojoiaaGreatDoorG16
import Derived.Test.YtdchgbmliojoiaaGreatDoorG10
import Derived.Deep.RegionWith
set_option maxRecDepth 100000
set_option maxHeartbeats 8000000
set_option linter.unusedVariables false
set_option linter.unusedSimpArgs false
namespace Go.Proofs.YtdchgbmliojoiaaGreatDoor
open Go.RowKit
structure ROb where
 id:Int
 kind:Int
 of:Int
 offset:Int
def Fz (x:ROb):List Value:=[.int .i64 x.id,.int .i64 x.kind,.int .i64 x.of,.int .i64 x.offset]
def Pf (xs:List ROb):List Value:=xs.flatMap Fz
theorem Ph:∀(xs:List ROb) (j i:Nat) (x:ROb) (v:Value),xs[j]? =some x->i<4->(Fz x)[i]? =some v->(Pf xs)[j*4+i]? =some v
 |[],j,i,x,v,h,_,_=>by simp at h
 |a::r,0,i,x,v,h,hi,hv=>by
  have e:a=x:=by simpa using h
  subst e
  show (Fz a++Pf r)[0*4+i]? =_
  rw [zp (by simp [Fz];omega)]
  simpa using hv
 |a::r,j+1,i,x,v,h,hi,hv=>by
  show (Fz a++Pf r)[(j+1)*4+i]? =_
  rw [zo (by simp [Fz];omega)]
  have:(j+1)*4+i-(Fz a).length=j*4+i:=by simp [Fz];omega
  rw [this]
  exact Ph r j i x v (by simpa using h) hi hv
def Ir (OB:List ROb) (id:Int) (n:Nat):Int×Int:=(OB.take n).foldl (fun a x=>if x.id=id then (x.kind,x.offset) else a) (4,0)
theorem Lp {OB:List ROb} {id:Int} {n:Nat} {x:ROb} (h:OB[n]? =some x):Ir OB id (n+1)=if x.id=id then (x.kind,x.offset) else Ir OB id n:=by
 unfold Ir
 rw [List.take_add_one,h];simp
def Gr (OB:List ROb) (id:Int):Int×Int:=Ir OB id OB.length
structure AFd where
 num:Int
 kind:Int
 offset:Int
def DY (OB:List ROb) (F:List Int):Nat->List AFd
 |0=>[]
 |n+1=>if F.getD n 0=0 then DY OB F n else DY OB F n++[⟨n,(Gr OB (F.getD n 0)).1,(Gr OB (F.getD n 0)).2⟩]
def Dt (OB:List ROb) (F:List Int):List AFd:=DY OB F 8
theorem K6 (OB:List ROb) (F:List Int):∀n,(DY OB F n).length<=n
 |0=>by simp [DY]
 |n+1=>by
  have:=K6 OB F n
  unfold DY
  split
  ·omega
  ·simp;omega
theorem Pi (OB:List ROb) (F:List Int):∀(m n:Nat),DY OB F n<+:DY OB F (n+m)
 |0,n=>List.prefix_rfl
 |m+1,n=>by
  refine (Pi OB F m n).trans ?_
  show DY OB F (n+m)<+:DY OB F (n+m+1)
  conv=>rhs;unfold DY
  split
  ·exact List.prefix_rfl
  ·exact List.prefix_append _ _
theorem Zq {OB:List ROb} {F:List Int} {j:Nat} (hj:j<8) (h:F.getD j 0≠0):(Dt OB F)[(DY OB F j).length]? =some ⟨j,(Gr OB (F.getD j 0)).1,(Gr OB (F.getD j 0)).2⟩:=by
 have hp:DY OB F (j+1)<+:Dt OB F:=by
  have:=Pi OB F (8-(j+1)) (j+1)
  rwa [show j+1+(8-(j+1))=8 by omega] at this
 have e:DY OB F (j+1)=DY OB F j++[⟨j,(Gr OB (F.getD j 0)).1,(Gr OB (F.getD j 0)).2⟩]:=by
  conv=>lhs;unfold DY
  rw [if_neg h]
 rw [e] at hp
 obtain ⟨t,ht⟩:=hp
 rw [<-ht,ye,zo (zx _)]
 simp
theorem Us {OB:List ROb} {F:List Int} {j:Nat} (h:F.getD j 0=0):DY OB F (j+1)=DY OB F j:=by
 conv=>lhs;unfold DY
 rw [if_pos h]
def eE (w:World) (g o:Nat) (FL:List AFd):Prop:=∀(i:Nat) (x:AFd),FL[i]? =some x->w.cell? (pK g (o+i*3))=some (.int .i64 x.num)/\w.cell? (pK g (o+i*3+1))=some (.int .i64 x.kind)/\w.cell? (pK g (o+i*3+2))=some (.int .i64 x.offset)
def eF (w:World) (g:Nat) (OB:List ROb):Prop:=w.rangeAt g 0 (Pf OB)
def DJ (pid par st su le pc:Int) (R:List Int) (pv fv:Value):List Value:=[.int .i64 pid,.int .i64 par,.int .i64 st,.int .i64 su,.int .i64 le,.int .u64 pc,.int .u64 (R[0]?.getD 0),.int .u64 (R[1]?.getD 0),.int .u64 (R[2]?.getD 0),.int .u64 (R[3]?.getD 0),.int .u64 (R[4]?.getD 0),.int .u64 (R[5]?.getD 0),.int .u64 (R[6]?.getD 0),.int .u64 (R[7]?.getD 0),.int .u64 (R[8]?.getD 0),.int .u64 (R[9]?.getD 0),.int .u64 (R[10]?.getD 0),.int .u64 (R[11]?.getD 0),.int .u64 (R[12]?.getD 0),.int .u64 (R[13]?.getD 0),.int .u64 (R[14]?.getD 0),.int .u64 (R[15]?.getD 0),pv,fv]
theorem Fs {P:Program} {ops:Array Oper} {rest:List Oper} {op:Oper} {a:Act} {w:World} {Q:Exit->Act->World->Prop} (hw:Region.wanted op (yielded ops a.tmps)=true) (ty:TypeId) (x:Operand) (ho:op.op= .load ty x)
  (b o:Nat) (hx:a.eval x= pq b o) (cs:List Value) (d:TypeDesc) (hc:w.rangeAt b o cs) (hu:P.underlying ty=some d) (hd:d.isRow=true) (hi:(P.info? ty).map (·.size)=some cs.length)
  (h:wpList P ops Q rest (a.put op.dst (.agg cs.toArray)) w):wpList P ops Q (op::rest) a w:=by
 unfold wpList
 rw [if_pos hw]
 exact .inl (wp_load_mid ty x ho b o hx cs d hc hu hd hi h)
def C8 (R:List Int):List Value:=R.map (Value.int .u64)
theorem Zr {R:List Int} (h:R.length=16):R=[R[0]?.getD 0,R[1]?.getD 0,R[2]?.getD 0,R[3]?.getD 0,R[4]?.getD 0,R[5]?.getD 0,R[6]?.getD 0,R[7]?.getD 0,R[8]?.getD 0,R[9]?.getD 0,R[10]?.getD 0,R[11]?.getD 0,R[12]?.getD 0,R[13]?.getD 0,R[14]?.getD 0,R[15]?.getD 0]:=by
 match R,h with
 |[a0,a1,a2,a3,a4,a5,a6,a7,a8,a9,a10,a11,a12,a13,a14,a15],_=>rfl
theorem Sm {R:List Int} (h:R.length=16) {j:Nat} {v:Value} (hv:(C8 R)[j]? =some v):[.int .u64 (R[0]?.getD 0),.int .u64 (R[1]?.getD 0),.int .u64 (R[2]?.getD 0),.int .u64 (R[3]?.getD 0),.int .u64 (R[4]?.getD 0),.int .u64 (R[5]?.getD 0),.int .u64 (R[6]?.getD 0),.int .u64 (R[7]?.getD 0),.int .u64 (R[8]?.getD 0),.int .u64 (R[9]?.getD 0),.int .u64 (R[10]?.getD 0),.int .u64 (R[11]?.getD 0),.int .u64 (R[12]?.getD 0),.int .u64 (R[13]?.getD 0),.int .u64 (R[14]?.getD 0),.int .u64 (R[15]?.getD 0)][j]? =some v:=by
 rw [Zr h] at hv
 exact hv
theorem Qb {pid par st su le pc:Int} {R:List Int} {pv fv:Value} (h:R.length=16) {j:Nat} {v:Value} (hv:(C8 R)[j]? =some v):(DJ pid par st su le pc R pv fv)[6+j]? =some v:=by
 have h1:=Sm h hv
 have hl:j<16:=by have:=(zy.1 h1).1;simpa using this
 show ([.int .i64 pid,.int .i64 par,.int .i64 st,.int .i64 su,.int .i64 le,.int .u64 pc]++([.int .u64 (R[0]?.getD 0),.int .u64 (R[1]?.getD 0),.int .u64 (R[2]?.getD 0),.int .u64 (R[3]?.getD 0),.int .u64 (R[4]?.getD 0),.int .u64 (R[5]?.getD 0),.int .u64 (R[6]?.getD 0),.int .u64 (R[7]?.getD 0),.int .u64 (R[8]?.getD 0),.int .u64 (R[9]?.getD 0),.int .u64 (R[10]?.getD 0),.int .u64 (R[11]?.getD 0),.int .u64 (R[12]?.getD 0),.int .u64 (R[13]?.getD 0),.int .u64 (R[14]?.getD 0),.int .u64 (R[15]?.getD 0)]++[pv,fv]))[6+j]? =_
 rw [zo (by simp),zp (by simp;omega)]
 simpa using h1
theorem Qc {pid par st su le pc:Int} {R F:List Int} {pv:Value} (h:R.length=16) {j:Nat} {v:Value} (hv:(C8 R)[j]? =some v):(BW pid par st su le pc R pv F)[6+j]? =some v:=by
 have h1:=Sm h hv
 have hl:j<16:=by have:=(zy.1 h1).1;simpa using this
 show ([.int .i64 pid,.int .i64 par,.int .i64 st,.int .i64 su,.int .i64 le,.int .u64 pc]++([.int .u64 (R[0]?.getD 0),.int .u64 (R[1]?.getD 0),.int .u64 (R[2]?.getD 0),.int .u64 (R[3]?.getD 0),.int .u64 (R[4]?.getD 0),.int .u64 (R[5]?.getD 0),.int .u64 (R[6]?.getD 0),.int .u64 (R[7]?.getD 0),.int .u64 (R[8]?.getD 0),.int .u64 (R[9]?.getD 0),.int .u64 (R[10]?.getD 0),.int .u64 (R[11]?.getD 0),.int .u64 (R[12]?.getD 0),.int .u64 (R[13]?.getD 0),.int .u64 (R[14]?.getD 0),.int .u64 (R[15]?.getD 0)]++[pv,.int .i64 (F[0]?.getD 0),.int .i64 (F[1]?.getD 0),.int .i64 (F[2]?.getD 0),.int .i64 (F[3]?.getD 0),.int .i64 (F[4]?.getD 0),.int .i64 (F[5]?.getD 0),.int .i64 (F[6]?.getD 0),.int .i64 (F[7]?.getD 0)]))[6+j]? =_
 rw [zo (by simp),zp (by simp;omega)]
 simpa using h1
theorem Ut {pid par st su le pc:Int} {R F:List Int} {pv:Value} {j:Nat} (hj:j<8):(BW pid par st su le pc R pv F)[23+j]? =some (.int .i64 (F.getD j 0)):=by
 match j,hj with
 |0,_=>rfl
 |1,_=>rfl
 |2,_=>rfl
 |3,_=>rfl
 |4,_=>rfl
 |5,_=>rfl
 |6,_=>rfl
 |7,_=>rfl
theorem Pj:(Tryz.prog.info? 76).map (·.size)=some 16:=by kernel_rfl
theorem gS (R:List Int) (h:R.length=16) (w:World):(Op.equalIn 10000 76 (.agg (C8 R).toArray) (.agg (C8 R).toArray)).run Tryz.prog w= .ok true w:=by
 have:=Gx (P:=Tryz.prog) w 9998 76 75 16 .u64 Tryz.underlying76 Tryz.underlying75 (fun w=>by kernel_rfl) R R h h
 simpa [C8] using this
theorem Qd (wb kb:Nat) (kv:Value) (oa:Option Addr) (og oc:Nat) (OB:List ROb) (pid par st su le pc:Int) (R F:List Int) (aa ab:Option Addr) (ga gb ca cb:Nat) (PS:List Pg) (fa:Option Addr) (fg fo fc:Nat) (w:World)
  (hw:w.cell? (pK wb 1)=some (pq kb 0)) (hk:w.cell? (pK kb 6)=some (.slice oa OB.length oc)) (hoa:0<OB.length->oa=some (pK og 0)) (hob:eF w og OB) (hon:OB.length<=100000)
  (hR:R.length=16) (ha:0<PS.length->aa=some (pK ga 0)) (hb:0<PS.length->ab=some (pK gb 0)) (hA:Gy w ga PS) (hB:Dq w gb PS) (hp:∀p∈PS,0<=p.perm/\p.perm<=255/\p.bytes.length=256) (hn:PS.length<=100000)
  (hfa:0<(Dt OB F).length->fa=some (pK fg fo)) (hfd:eE w fg fo (Dt OB F)) (hlt:wb<w.heap.size/\kb<w.heap.size/\(0<OB.length->og<w.heap.size)/\(0<PS.length->ga<w.heap.size/\gb<w.heap.size)/\(0<(Dt OB F).length->fg<w.heap.size)):
  Calls Tryz.prog 58 #[pq wb 0,.agg #[.int .i64 pid,.int .i64 par,.int .i64 st,.int .i64 su,.int .i64 le,.int .u64 pc,.int .u64 (R[0]?.getD 0),.int .u64 (R[1]?.getD 0),.int .u64 (R[2]?.getD 0),.int .u64 (R[3]?.getD 0),.int .u64 (R[4]?.getD 0),.int .u64 (R[5]?.getD 0),.int .u64 (R[6]?.getD 0),.int .u64 (R[7]?.getD 0),.int .u64 (R[8]?.getD 0),.int .u64 (R[9]?.getD 0),.int .u64 (R[10]?.getD 0),.int .u64 (R[11]?.getD 0),.int .u64 (R[12]?.getD 0),.int .u64 (R[13]?.getD 0),.int .u64 (R[14]?.getD 0),.int .u64 (R[15]?.getD 0),.slice aa PS.length ca,.slice fa (Dt OB F).length fc],.agg #[.int .i64 pid,.int .i64 par,.int .i64 st,.int .i64 su,.int .i64 le,.int .u64 pc,.int .u64 (R[0]?.getD 0),.int .u64 (R[1]?.getD 0),.int .u64 (R[2]?.getD 0),.int .u64 (R[3]?.getD 0),.int .u64 (R[4]?.getD 0),.int .u64 (R[5]?.getD 0),.int .u64 (R[6]?.getD 0),.int .u64 (R[7]?.getD 0),.int .u64 (R[8]?.getD 0),.int .u64 (R[9]?.getD 0),.int .u64 (R[10]?.getD 0),.int .u64 (R[11]?.getD 0),.int .u64 (R[12]?.getD 0),.int .u64 (R[13]?.getD 0),.int .u64 (R[14]?.getD 0),.int .u64 (R[15]?.getD 0),.slice ab PS.length cb,.int .i64 (F[0]?.getD 0),.int .i64 (F[1]?.getD 0),.int .i64 (F[2]?.getD 0),.int .i64 (F[3]?.getD 0),.int .i64 (F[4]?.getD 0),.int .i64 (F[5]?.getD 0),.int .i64 (F[6]?.getD 0),.int .i64 (F[7]?.getD 0)]] w fun e w'=>e= .returned (.bool true)/\Below w.heap.size w w':=by
 have HPG:=AC (fun (w':World) (hb':Below w.heap.size w w')=>OY aa ab ga gb ca cb PS w' ha hb (fun i p h=>by
   have hl:=hlt.2.2.2.1 (by have:=(zy.1 h).1;omega)
   obtain ⟨h1,h2,h3⟩:=hA i p h
   exact ⟨by rw [hb'.cell (p:=(pK ga (i*258))) hl.1];exact h1,by rw [hb'.cell (p:=(pK ga (i*258+1))) hl.1];exact h2,fun j v hv=>by rw [hb'.cell (p:=(pK ga (i*258+2+j))) hl.1];exact h3 j v hv⟩) (fun i p h=>by
   have hl:=hlt.2.2.2.1 (by have:=(zy.1 h).1;omega)
   obtain ⟨h1,h2,h3⟩:=hB i p h
   exact ⟨by rw [hb'.cell (p:=(pK gb (i*258))) hl.2];exact h1,by rw [hb'.cell (p:=(pK gb (i*258+1))) hl.2];exact h2,fun j v hv=>by rw [hb'.cell (p:=(pK gb (i*258+2+j))) hl.2];exact h3 j v hv⟩) hp hn)
 have HFD:=AC hfd
 have HFA:=AC hfa
 have HOB:=AC hob
 have HOA:=AC hoa
 have HLT:=AC hlt
 have hwl:=hlt.1
 have hkl:=hlt.2.1
 have HR:=AC hR
 obtain ⟨W0,hW0⟩:∃W0,W0=(w.alloc (Obj.cells (DJ pid par st su le pc R (.slice aa PS.length ca) (.slice fa (Dt OB F).length fc)).toArray 163)).alloc (Obj.cells (BW pid par st su le pc R (.slice ab PS.length cb) F).toArray 80):=⟨_,rfl⟩
 have hb0:Below w.heap.size w W0:=by rw [hW0];exact ((zw _ _).alloc (zx _) _).alloc (by simp) _
 have hp0:AG W0 w.heap.size 163 (DJ pid par st su le pc R (.slice aa PS.length ca) (.slice fa (Dt OB F).length fc)):=by rw [hW0];exact (AG.new w 163 _).alloc _
 have hq0:AG W0 (w.heap.size+1) 80 (BW pid par st su le pc R (.slice ab PS.length cb) F):=by
  rw [hW0]
  have:=AG.new (w.alloc (Obj.cells (DJ pid par st su le pc R (.slice aa PS.length ca) (.slice fa (Dt OB F).length fc)).toArray 163)) 80 (BW pid par st su le pc R (.slice ab PS.length cb) F)
  rwa [show (w.alloc (Obj.cells (DJ pid par st su le pc R (.slice aa PS.length ca) (.slice fa (Dt OB F).length fc)).toArray 163)).heap.size=w.heap.size+1 from by simp] at this
 have HB0:=AC hb0
 have HP0:=AC hp0
 have HQ0:=AC hq0
 unfold DJ BW at hW0
 have HW0:=AC hW0
 clear ha hb hA hB hp hfd hfa hob hoa hlt hR hb0 hp0 hq0 hW0
 go_enter Tryz.func58,Tryz.ntmps58
 go_upto_region 1 with fail
 rw [<-AB HW0]
 have a0:=(AB HP0).cell (j:=0) rfl
 have a1:=(AB HP0).cell (j:=1) rfl
 have a2:=(AB HP0).cell (j:=2) rfl
 have a3:=(AB HP0).cell (j:=3) rfl
 have a4:=(AB HP0).cell (j:=4) rfl
 have a22:=(AB HP0).cell (j:=22) rfl
 have b0:=(AB HQ0).cell (j:=0) rfl
 have b1:=(AB HQ0).cell (j:=1) rfl
 have b2:=(AB HQ0).cell (j:=2) rfl
 have b3:=(AB HQ0).cell (j:=3) rfl
 have b4:=(AB HQ0).cell (j:=4) rfl
 have b22:=(AB HQ0).cell (j:=22) rfl
 go_wp2_with fail
 refine (AB HPG W0 (AB HB0)).mono ?_
 rintro e w1 ⟨rfl,hh1,hb1⟩
 clear a0 a1 a2 a3 a4 a22 b0 b1 b2 b3 b4 b22 HPG
 have HP1:=AC ((AB HP0).heap hh1)
 have HQ1:=AC ((AB HQ0).heap hh1)
 have HB1:=AC ((AB HB0).trans (hb1.mono (by have:=(AB HB0).size;omega)))
 have a5:=(AB HP1).cell (j:=5) rfl
 have b5:=(AB HQ1).cell (j:=5) rfl
 obtain ⟨cs,hcs⟩:∃cs,cs=C8 R:=⟨_,rfl⟩
 obtain ⟨ds,hds⟩:∃ds,ds=C8 R:=⟨_,rfl⟩
 have HCA:=AC (show w1.rangeAt w.heap.size 6 cs from fun j v hv=>(AB HP1).cell (Qb (AB HR) (by rw [<-hcs];exact hv)))
 have HCB:=AC (show w1.rangeAt (w.heap.size+1) 6 ds from fun j v hv=>(AB HQ1).cell (Qc (AB HR) (by rw [<-hds];exact hv)))
 have hq:∀w,(Op.equalIn 10000 76 (.agg cs.toArray) (.agg ds.toArray)).run Tryz.prog w= .ok true w:=by rw [hcs,hds];exact gS R (AB HR)
 have HI1:=AC (show (Tryz.prog.info? 76).map (·.size)=some cs.length from by rw [Pj,hcs];simp [C8,AB HR])
 have HI2:=AC (show (Tryz.prog.info? 76).map (·.size)=some ds.length from by rw [Pj,hds];simp [C8,AB HR])
 clear hh1 hb1 hcs hds
 go_upto_region 8 with (first|(refine Fs (by rfl) 76 _ rfl w.heap.size 6 (by rfl) cs _ (AB HCA) Tryz.underlying76 rfl (AB HI1) ?_)|(refine Fs (by rfl) 76 _ rfl (w.heap.size+1) 6 (by rfl) ds _ (AB HCB) Tryz.underlying76 rfl (AB HI2) ?_))
 have hcell:∀b o,b<w.heap.size->w1.cell? (pK b o)=w.cell? (pK b o):=fun b o hb=>(AB HB1).cell (p:=(pK b o)) hb
 have a23:w1.cell? (pK w.heap.size 23)=some (.slice fa (Dt OB F).length fc):=(AB HP1).cell (j:=23) rfl
 have e1:w1.cell? (pK wb 1)=some (pq kb 0):=by rw [hcell _ _ hwl];exact hw
 have e6:w1.cell? (pK kb 6)=some (.slice oa OB.length oc):=by rw [hcell _ _ hkl];exact hk
 have HFQ:=AC (show ∀j,j<8->w1.cell? (pK (w.heap.size+1) (23+j))=some (.int .i64 (F.getD j 0)) from fun j hj=>(AB HQ1).cell (Ut hj))
 have HFP:=AC (show ∀(i:Nat) (x:AFd),(Dt OB F)[i]? =some x->fa=some (pK fg fo)/\w1.cell? (pK fg (fo+i*3))=some (.int .i64 x.num)/\w1.cell? (pK fg (fo+i*3+1))=some (.int .i64 x.kind)/\w1.cell? (pK fg (fo+i*3+2))=some (.int .i64 x.offset) from fun i x hx=>by
  have hl:0<(Dt OB F).length:=by have:=(zy.1 hx).1;omega
  have hg:=(AB HLT).2.2.2.2 hl
  obtain ⟨h1,h2,h3⟩:=AB HFD i x hx
  exact ⟨AB HFA hl,by rw [hcell _ _ hg];exact h1,by rw [hcell _ _ hg];exact h2,by rw [hcell _ _ hg];exact h3⟩)
 have HOP:=AC (show ∀(i:Nat) (x:ROb),OB[i]? =some x->oa=some (pK og 0)/\w1.cell? (pK og (i*4))=some (.int .i64 x.id)/\w1.cell? (pK og (i*4+1))=some (.int .i64 x.kind)/\w1.cell? (pK og (i*4+3))=some (.int .i64 x.offset) from fun i x hx=>by
  have hl:0<OB.length:=by have:=(zy.1 hx).1;omega
  have hg:=(AB HLT).2.2.1 hl
  have hr:∀(c:Nat) (v:Value),c<4->(Fz x)[c]? =some v->w1.cell? (pK og (i*4+c))=some v:=fun c v hc hv=>by
   rw [hcell _ _ hg]
   have:=(AB HOB) (i*4+c) v (Ph OB i c x v hx hc hv)
   rwa [zq] at this
  exact ⟨AB HOA hl,hr 0 _ (by omega) rfl,hr 1 _ (by omega) rfl,hr 3 _ (by omega) rfl⟩)
 have h8:=K6 OB F 8
 have HFN:=AC (show (DY OB F 8).length=(Dt OB F).length from rfl)
 have hfn:(Dt OB F).length<=8:=h8
 clear hw hk hwl hkl hcell a5 b5 hq HCA HCB HI1 HI2 HFD HFA HOB HOA HLT HP0 HQ0 HB0 HW0 h8
 go_loop [8,9] (fun at_ f=>∃j:Nat,j<=8/\f= .int .i64 j/\at_= .int .i64 (DY OB F j).length) (fun _ f=>8-(intOf f).toNat)
 case atStart=>exact ⟨0,by omega,rfl,rfl⟩
 case round=>
  obtain ⟨j,hj,rfl,rfl⟩:=hrel
  have hA:=K6 OB F j
  by_cases hlt:j<8
  ·have f0:=AB HFQ j hlt
   have hj0:(0:Int)<=(j:Int):=by omega
   have hj1:(j:Int)<8:=by omega
   by_cases hz:F.getD j 0=0
   ·have HE:=AC (Us (OB:=OB) hz)
    rw [hz] at f0
    clear hz
    go_wp2
    go_round
    case rel=>exact ⟨j+1,by omega,by go_num,by rw [AB HE]⟩
    case measure=>simp [intOf];omega
   ·have hx:=Zq (OB:=OB) hlt hz
    obtain ⟨hfa,g0,g1,g2⟩:=AB HFP _ _ hx
    have hAl:=(zy.1 hx).1
    have HE:=AC (show (DY OB F (j+1)).length=(DY OB F j).length+1 from by
     have e:DY OB F (j+1)=DY OB F j++[⟨j,(Gr OB (F.getD j 0)).1,(Gr OB (F.getD j 0)).2⟩]:=by
      conv=>lhs;unfold DY
      rw [if_neg hz]
     rw [e];simp)
    subst hfa
    obtain ⟨X,hX⟩:∃X,X=F.getD j 0:=⟨_,rfl⟩
    rw [<-hX] at f0 hz g1 g2
    have hz1:(X==0)=false:=by simpa using hz
    obtain ⟨A,hAA⟩:∃A,A=(DY OB F j).length:=⟨_,rfl⟩
    obtain ⟨NN,hNN⟩:∃NN,NN=(Dt OB F).length:=⟨_,rfl⟩
    rw [<-hAA] at g0 g1 g2 hAl HE hA ⊢
    rw [<-hNN] at a23 hAl hfn
    have hA0:(0:Int)<=(A:Int):=by omega
    have hA1:(A:Int)<(NN:Int):=by omega
    have hA2:¬(NN:Int)<=(A:Int):=by omega
    obtain ⟨KK,hKK⟩:∃KK,KK=(Gr OB X).1:=⟨_,rfl⟩
    obtain ⟨OO,hOO⟩:∃OO,OO=(Gr OB X).2:=⟨_,rfl⟩
    rw [<-hKK] at g1
    rw [<-hOO] at g2
    have HKK:=AC hKK
    have HOO:=AC hOO
    simp only at g0
    clear hz hx hX hAA hNN hAl hKK hOO
    go_wp2
    go_loop [11,12,13] (fun kd of i=>∃m:Nat,m<=OB.length/\i= .int .i64 m/\kd= .int .i64 (Ir OB X m).1/\of= .int .i64 (Ir OB X m).2) (fun _ _ i=>OB.length-(intOf i).toNat)
    case atStart=>exact ⟨0,by omega,rfl,rfl,rfl⟩
    case round=>
     obtain ⟨m,hm,rfl,rfl,rfl⟩:=hrel
     by_cases hml:m<OB.length
     ·obtain ⟨x,hx⟩:∃x,OB[m]? =some x:=⟨_,zz hml⟩
      obtain ⟨hoa,o0,o1,o3⟩:=AB HOP m x hx
      subst hoa
      have hm0:(0:Int)<=(m:Int):=by omega
      have hm1:(m:Int)<(OB.length:Int):=by omega
      by_cases hid:x.id=X
      ·have hi1:(x.id==X)=true:=by simpa using hid
       have HKS:=AC ((Lp (id:=X) hx).trans (if_pos hid))
       generalize x.id=XI at o0 hi1 hid
       generalize hxk:x.kind=XK at o1 HKS
       generalize hxo:x.offset=XO at o3 HKS
       clear hx hid hxk hxo
       go_wp2
       go_round
       case rel=>exact ⟨m+1,by omega,by go_num,by rw [AB HKS],by rw [AB HKS]⟩
       case measure=>simp [intOf];omega
      ·have hi1:(x.id==X)=false:=by simpa using hid
       have HKS:=AC ((Lp (id:=X) hx).trans (if_neg hid))
       generalize x.id=XI at o0 hi1 hid
       clear hx hid o1 o3
       go_wp2
       go_round
       case rel=>exact ⟨m+1,by omega,by go_num,by rw [AB HKS],by rw [AB HKS]⟩
       case measure=>simp [intOf];omega
     ·have hme:m=OB.length:=by omega
      subst hme
      have HK2:=AC (show (Ir OB X OB.length).1=KK from (AB HKK).symm)
      have HO2:=AC (show (Ir OB X OB.length).2=OO from (AB HOO).symm)
      rw [AB HK2,AB HO2]
      clear HKK HOO HK2 HO2
      go_wp2
      go_round
      case rel=>exact ⟨j+1,by omega,by go_num,by rw [AB HE];go_num⟩
      case measure=>simp [intOf];omega
  ·have hje:j=8:=by omega
   subst hje
   rw [AB HFN]
   go_wp2
   go_ret
   exact ⟨rfl,AB HB1⟩
structure K8 where
 aa:Option Addr
 ga:Nat
 ca:Nat
 fa:Option Addr
 fg:Nat
 fo:Nat
 fc:Nat
def Hy (w:World) (g n:Nat):Prop:=∀j,j<n->(w.cell? (pK g (j*258))).isSome=true/\w.frozen? (pK g (j*258))=false/\(∃x:Int,w.cell? (pK g (j*258+2))=some (.int .u8 x))/\w.frozen? (pK g (j*258+2))=false
theorem Hy.set {w:World} {g n:Nat} (h:Hy w g n) (o:Nat) (v:Value) (hv:∀j,j<n->o=j*258+2->∃y:Int,v= .int .u8 y):Hy (w.setCell (pK g o) v) g n:=fun j hj=>by
 obtain ⟨a,b,⟨x,c⟩,d⟩:=h j hj
 refine ⟨?_,by simpa using b,?_,by simpa using d⟩
 ·by_cases e:o=j*258
  ·subst e
   rw [World.cell?_setCell_same' _ _ _ a];rfl
  ·rw [z7 _ _ _ _ (by simp<;>omega)];exact a
 ·by_cases e:o=j*258+2
  ·obtain ⟨y,rfl⟩:=hv j hj e
   subst e
   exact ⟨y,z8 _ _ _ c⟩
  ·exact ⟨x,by rw [z7 _ _ _ _ (by simp<;>omega)];exact c⟩
def NT (OB:List ROb) (p:AP) (l:K8):List Value:=DJ p.pid p.par p.st p.su p.le p.pc p.R (.slice l.aa p.PS.length l.ca) (.slice l.fa (Dt OB p.F).length l.fc)
structure Jt (w:World) (B ag i:Nat) (OB:List ROb) (p:AP) (l:K8):Prop where
 row:w.rangeAt ag (i*24) (NT OB p l)
 aa:0<p.PS.length->l.aa=some (pK l.ga 0)/\B<=l.ga/\l.ga<w.heap.size/\l.ga≠ag
 pages:Gy w l.ga p.PS
 pgc:Hy w l.ga p.PS.length
 fa:0<(Dt OB p.F).length->l.fa=some (pK l.fg l.fo)/\l.fg<w.heap.size
 fds:eE w l.fg l.fo (Dt OB p.F)
structure Ed (w:World) (B ag n:Nat) (OB:List ROb) (AL:List AP) (LS:List K8):Prop where
 len:LS.length=AL.length
 at_:∀(i:Nat) (p:AP) (l:K8),n<=i->AL[i]? =some p->LS[i]? =some l->Jt w B ag i OB p l
 apart:∀(i j:Nat) (p:AP) (l m:K8),AL[i]? =some p->LS[i]? =some l->LS[j]? =some m->i≠j->0<p.PS.length->l.ga≠m.ga/\l.ga≠m.fg
structure Zs (w:World) (B gp:Nat) (AL:List AP):Prop where
 lt:0<AL.length->gp<B
 at_:∀(i:Nat) (p:AP),AL[i]? =some p->∃ab gb cb,w.rangeAt gp (i*31) (BW p.pid p.par p.st p.su p.le p.pc p.R (.slice ab p.PS.length cb) p.F)/\(0<p.PS.length->ab=some (pK gb 0)/\gb<B)/\Dq w gb p.PS
theorem Jt.other {w w':World} {B ag i g:Nat} {OB:List ROb} {p:AP} {l:K8} (h:Jt w B ag i OB p l) (hg:w.grownBy w' (some g)) (h1:g≠ag) (h2:0<p.PS.length->g≠l.ga) (h3:0<(Dt OB p.F).length->g≠l.fg):Jt w' B ag i OB p l:=by
 have hs:=hg.size
 refine ⟨DQ h.row hg (by simp;omega),fun h0=> ?_,fun j q hq=> ?_,fun j hj=> ?_,fun h0=> ?_,fun j x hx=> ?_⟩
 ·obtain ⟨a,b,c,d⟩:=h.aa h0
  exact ⟨a,b,by omega,d⟩
 ·have h0:0<p.PS.length:=by have:=(zy.1 hq).1;omega
  have hne:some l.ga≠some g:=by simp;exact fun e=>h2 h0 e.symm
  obtain ⟨a,b,c⟩:=h.pages j q hq
  exact ⟨hg.cell a hne,hg.cell b hne,DQ c hg hne⟩
 ·have hne:some l.ga≠some g:=by simp;exact fun e=>h2 (by omega) e.symm
  have hl:=(h.aa (by omega)).2.2.1
  obtain ⟨a,b,⟨x,c⟩,d⟩:=h.pgc j hj
  refine ⟨?_,?_,⟨x,hg.cell c hne⟩,?_⟩
  ·obtain ⟨u,hu⟩:=Option.isSome_iff_exists.1 a
   rw [hg.cell hu hne];rfl
  ·rw [hg.frozen_far _ hl hne];exact b
  ·rw [hg.frozen_far _ hl hne];exact d
 ·obtain ⟨a,b⟩:=h.fa h0
  exact ⟨a,by omega⟩
 ·have h0:0<(Dt OB p.F).length:=by have:=(zy.1 hx).1;omega
  have hne:some l.fg≠some g:=by simp;exact fun e=>h3 h0 e.symm
  obtain ⟨a,b,c⟩:=h.fds j x hx
  exact ⟨hg.cell a hne,hg.cell b hne,hg.cell c hne⟩
theorem Ed.rest {w w':World} {B ag n:Nat} {OB:List ROb} {AL:List AP} {LS:List K8} (h:Ed w B ag n OB AL LS) {p:AP} {l:K8} (hp:AL[n]? =some p) (hl:LS[n]? =some l) (h0:0<p.PS.length) (hg:w.grownBy w' (some l.ga)):Ed w' B ag (n+1) OB AL LS:=by
 have hn:=h.at_ n p l (zx _) hp hl
 refine ⟨h.len,fun i q m hi hq hm=> ?_,h.apart⟩
 have ha:=h.apart n i p l m hp hl hm (by omega) h0
 exact (h.at_ i q m (by omega) hq hm).other hg (hn.aa h0).2.2.2 (fun _=>ha.1) (fun _=>ha.2)
theorem Ed.next {w:World} {B ag n:Nat} {OB:List ROb} {AL:List AP} {LS:List K8} (h:Ed w B ag n OB AL LS):Ed w B ag (n+1) OB AL LS:=⟨h.len,fun i q m hi hq hm=>h.at_ i q m (by omega) hq hm,h.apart⟩
theorem Jt.below {w w':World} {B ag i:Nat} {OB:List ROb} {p:AP} {l:K8} (h:Jt w B ag i OB p l) (hb:Below w.heap.size w w'):Jt w' B ag i OB p l:=by
 have hg:w.grownBy w' none:=⟨hb.os,hb.tape,hb.output,hb.size,fun k hk _=>hb.block k hk⟩
 have hs:=hg.size
 refine ⟨DQ h.row hg (by simp),fun h0=> ?_,fun j q hq=> ?_,fun j hj=> ?_,fun h0=> ?_,fun j x hx=> ?_⟩
 ·obtain ⟨a,b,c,d⟩:=h.aa h0
  exact ⟨a,b,by omega,d⟩
 ·obtain ⟨a,b,c⟩:=h.pages j q hq
  exact ⟨hg.cell a (by simp),hg.cell b (by simp),DQ c hg (by simp)⟩
 ·have hl:=(h.aa (by omega)).2.2.1
  obtain ⟨a,b,⟨x,c⟩,d⟩:=h.pgc j hj
  refine ⟨?_,?_,⟨x,hg.cell c (by simp)⟩,?_⟩
  ·obtain ⟨u,hu⟩:=Option.isSome_iff_exists.1 a
   rw [hg.cell hu (by simp)];rfl
  ·rw [hg.frozen_far _ hl (by simp)];exact b
  ·rw [hg.frozen_far _ hl (by simp)];exact d
 ·obtain ⟨a,b⟩:=h.fa h0
  exact ⟨a,by omega⟩
 ·obtain ⟨a,b,c⟩:=h.fds j x hx
  exact ⟨hg.cell a (by simp),hg.cell b (by simp),hg.cell c (by simp)⟩
theorem Ed.below {w w':World} {B ag n:Nat} {OB:List ROb} {AL:List AP} {LS:List K8} (h:Ed w B ag n OB AL LS) (hb:Below w.heap.size w w'):Ed w' B ag n OB AL LS:=⟨h.len,fun i q m hi hq hm=>(h.at_ i q m hi hq hm).below hb,h.apart⟩
structure Ng (lp lf lo li lb:Int) (w:World) (FZ:List AV) (j:Nat) (wr:World) (k:RK) (cs:List (List Int)) (g cap:Nat):Prop where
 rep:D9 wr (w.heap.size+2) (w.heap.size+1) g cap k
 cont:Ch wr k.inos cs
 inv:Ho k
 nils:IT lp lf lo li lb k
 puts:(B6 lp lf lo li lb).puts (FZ.take j)=(0,k.toP cs)
 bytes:CC cs
 used:AU cs<=((FZ.take j).map (fun f=>f.bytes.length)).sum
 inos:k.inos.length<=j+1
 last:k.last<=j+1
 below:Below w.heap.size w wr
def Nh (lp lf lo li lb:Int) (w:World) (FZ:List AV) (j:Nat) (wr:World):Prop:=∃k cs g cap,Ng lp lf lo li lb w FZ j wr k cs g cap
theorem Ng.drew {lp lf lo li lb:Int} {w:World} {FZ:List AV} {j:Nat} {wr:World} {k:RK} {cs:List (List Int)} {g cap:Nat} (h:Ng lp lf lo li lb w FZ j wr k cs g cap):Ng lp lf lo li lb w FZ j wr.drew k cs g cap:=
 ⟨h.rep.heap rfl,h.cont,h.inv,h.nils,h.puts,h.bytes,h.used,h.inos,h.last,⟨h.below.os,h.below.tape,h.below.output,h.below.size,h.below.block⟩⟩
theorem Nh.drew {lp lf lo li lb:Int} {w:World} {FZ:List AV} {j:Nat} {wr:World} (h:Nh lp lf lo li lb w FZ j wr):Nh lp lf lo li lb w FZ j wr.drew:=by
 obtain ⟨k,cs,g,cap,h⟩:=h
 exact ⟨k,cs,g,cap,h.drew⟩
theorem Gs {FZ:List AV} {j:Nat} {f:AV} (hf:FZ[j]? =some f):((FZ.take (j+1)).map (fun f=>f.bytes.length)).sum=((FZ.take j).map (fun f=>f.bytes.length)).sum+f.bytes.length:=by
 rw [List.take_add_one,hf];simp
theorem F5 (FZ:List AV) (j:Nat):((FZ.take j).map (fun f=>f.bytes.length)).sum<=(FZ.map (fun f=>f.bytes.length)).sum:=by
 rw [List.map_take];exact Ic _ j
def Zy (lp lf lo li lb:Int) (w:World) (FZ:List AV) (j:Nat) (e:Ending) (w':World):Prop:=
 ∃c:Int,e= .returned (.int .i64 c)/\Below w.heap.size w w'/\(c≠0->((B6 lp lf lo li lb).puts FZ).1=c)/\(c=0->Nh lp lf lo li lb w FZ (j+1) w')
theorem X3 (lp lf lo li lb:Int) (FZ:List AV) (w:World) (j:Nat) (f:AV) (hf:FZ[j]? =some f) (hn:FZ.length<=100) (hsum:(FZ.map (fun f=>f.bytes.length)).sum<=200000) (hps:∀f∈FZ,f.path.size<=maxLen/\AY f.bytes)
  (a:Option Addr) (q o c:Nat) (haq:0<f.bytes.length->a=some (pK q o)/\q<w.heap.size) (hbv:BC w q o f.bytes) (wr:World) (h:Nh lp lf lo li lb w FZ j wr):
  Calls Tryz.prog 41 #[pq (w.heap.size+1) 0,.string f.path,.bool f.dir,.slice a f.bytes.length c] wr fun e w'=>Zy lp lf lo li lb w FZ j e w':=by
 obtain ⟨k,cs,g,cap,h⟩:=h
 have hjl:=(zy.1 hf).1
 have hg:=h.rep.2.lt g rfl
 have hk:=h.rep.1.lt
 have hi0:=h.inos
 have hl0:=h.last
 have hp:=hps f (zv hf)
 have hu:=h.used
 have hst:=F5 FZ j
 have hst2:=F5 FZ (j+1)
 have hsf:=Gs hf
 have hsz:=h.below.size
 cases hd:f.dir with
 |true=>
  refine (SF (w.heap.size+2) (w.heap.size+1) g cap k f.path _ wr h.rep (by omega) (by omega) (by omega) (by have:=h.inv.2.2;omega) (by omega) hp.1).mono ?_
  rintro e w7 ⟨rfl,g7,cap7,hr7,hf7,hg7⟩
  have hb7:Below w.heap.size w w7:=h.below.trans (hf7.below (by omega) (by omega) (by omega))
  have hpd:=Zp (k:=k) (cs:=cs) hd
  refine ⟨(CW k f.path).1,rfl,hb7,fun hc=> ?_,fun hc=> ?_⟩
  ·rw [K4 h.puts hf (by rw [hpd.1];exact hc),hpd.1]
  ·have had:=Xq hc
   refine ⟨(CW k f.path).2,cs++[[]],g7,cap7,hr7,?_,h.inv.mkdir f.path,h.nils.mkdir f.path,?_,h.bytes.snoc,?_,?_,?_,hb7⟩
   ·rw [had]
    exact (h.cont.frame hf7 h.rep.apart.1 h.rep.apart.2).add _ _ _
   ·rw [K3 h.puts hf (hpd.1.trans hc),hpd.2 hc]
   ·rw [FK];omega
   ·rw [had];simp [RK.add];omega
   ·rw [had];show k.last+1<=_;omega
 |false=>
  have hcs:(cs.map List.length).sum<=1000000:=by have:AU cs=(cs.map List.length).sum:=rfl;omega
  refine (QV (w.heap.size+2) (w.heap.size+1) g cap k cs f.path a q o c f.bytes wr h.rep h.cont h.inv (by omega) (by omega) (by omega) (by omega) hp.1 h.nils.pv h.nils.ov (by omega) hcs (fun h0=>(haq h0).1) (fun h0=>by have:=(haq h0).2;omega) ?_).mono ?_
  ·by_cases h0:0<f.bytes.length
   ·exact hbv.below h.below (haq h0).2
   ·exact fun j hj=>absurd hj (by omega)
  rintro e w7 ⟨rfl,hb7,hok⟩
  have hb7':Below w.heap.size w w7:=h.below.trans (hb7.mono (by omega))
  have hpd:=Xp (k:=k) (cs:=cs) hd
  refine ⟨fileCode k cs f.path f.bytes,rfl,hb7',fun hc=> ?_,fun hc=> ?_⟩
  ·rw [K4 h.puts hf (by rw [hpd.1];exact hc),hpd.1]
  ·obtain ⟨k',g',cap',hr',hc',he',hk',hf',hg'⟩:=hok hc
   have hin:k'.inos.length=(Go.Proofs.YtdchgbmliojoiaaGreatDoor.opened k cs f.path).1.inos.length:=by have:=congrArg List.length he';simpa using this
   have hll:k'.last=(Go.Proofs.YtdchgbmliojoiaaGreatDoor.opened k cs f.path).1.last:=by have h9:=congrArg (fun x:RK=>x.last) hk';exact h9
   refine ⟨k',FH k cs f.path f.bytes,g',cap',hr',hc',?_,h.nils.file hk',?_,h.bytes.file k f.path hp.2,?_,?_,?_,hb7'⟩
   ·obtain ⟨⟨k1,cs1,n1⟩,ho⟩:∃x,Go.Proofs.YtdchgbmliojoiaaGreatDoor.opened k cs f.path=x:=⟨_,rfl⟩
    rw [ho] at he' hll
    exact (h.inv.opened ho).same he' hll
   ·rw [K3 h.puts hf (hpd.1.trans hc),hpd.2 k' he' hk']
   ·have:=Se k cs f.path f.bytes;omega
   ·rw [hin];unfold Go.Proofs.YtdchgbmliojoiaaGreatDoor.opened;split
    ·simp [RK.add];omega
    ·simp;omega
   ·rw [hll];unfold Go.Proofs.YtdchgbmliojoiaaGreatDoor.opened;split
    ·show k.last+1<=_;omega
    ·show k.last<=_;omega
end Go.Proofs.YtdchgbmliojoiaaGreatDoor
