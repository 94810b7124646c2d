import Derived.Test.YtdchgbmliojoiaaGreatDoorG01
import Derived.Great.BuildSlice
import Derived.Deep.MidRow
import Derived.ChangeKeysEq
import Derived.Laws.StructEq
import Derived.Deep.QuietTactic
import Derived.BigQuiet
import Derived.Laws.Bits64
import Derived.Lib.Bytealg
import Derived.Lib.BufferWrite
import Derived.Shelf.SlSortCmp.SmallK
import Derived.Shelf.Small.Bits
set_option maxRecDepth 100000
set_option maxHeartbeats 1000000
set_option linter.unusedVariables false
set_option linter.unusedSimpArgs false
namespace Go.Proofs.YtdchgbmliojoiaaGreatDoor
section
open Go Go.RowKit
theorem CA {P:Program} {ops:Array Oper} {rest:List Oper} {op:Oper} {a:Act} {w:World} {Q:Exit->Act->World->Prop} (hgd:op.guard=none) (ty:TypeId) (ho:op.op= .alloc ty)
  (vs:Array Value) (hrun:∀old w,(Instr.alloc ty true old).run P w= .ok (pq w.heap.size 0) (w.alloc (.cells vs ty)))
  (h:wpList P ops Q rest (a.put op.dst (pq w.heap.size 0)) (w.alloc (.cells vs ty))):wpList P ops Q (op::rest) a w:=
 wpList_plain hgd fun _ hK=>by
  unfold Oper.wp execOp
  simp only [ho]
  simp [hrun,Result.andThen]
  exact hK _ _ h
theorem FC {P:Program} {ops:Array Oper} {rest:List Oper} {op:Oper} {a:Act} {w:World} {Q:Exit->Act->World->Prop} (hgd:op.guard=none) (ty:TypeId) (parts:Array (Nat×Operand)) (ho:op.op= .build ty parts)
  (vals:Array (Nat×Value)) (hv:(parts.map fun (i,x)=>(i,a.eval x))=vals) (v:Value) (hrun:∀w,(Instr.build ty vals).run P w= .ok v w)
  (h:wpList P ops Q rest (a.put op.dst v) w):wpList P ops Q (op::rest) a w:=
 wpList_plain hgd fun _ hK=>by
  unfold Oper.wp execOp
  simp only [ho]
  rw [hv]
  simp [hrun,Result.andThen]
  exact hK _ _ h
theorem FU {P:Program} {ops:Array Oper} {rest:List Oper} {op:Oper} {a:Act} {w:World} {Q:Exit->Act->World->Prop} (hgd:op.guard=none) (t e:TypeId) (x:Operand) (ho:op.op= .buildSlice t 1 #[(0,x)])
  (cs:List Value) (hx:a.eval x= .agg cs.toArray) (ie:TypeInfo) (z:Value) (hu:P.underlying t=some (.slice e)) (hie:P.info? e=some ie) (hz:ie.zero=some z) (hs:ie.size=cs.length) (h0:0<cs.length) (h24:cs.length<=2^24)
  (h:wpList P ops Q rest (a.put op.dst (.slice (some (pK w.heap.size 0)) 1 1)) (w.alloc (.cells cs.toArray e))):wpList P ops Q (op::rest) a w:=by
 refine wpList_buildSlice hgd t e 1 #[(0,x)] ho cs.toArray ie z hu hie hz (by rw [hs];omega) (by rw [hs];omega) ?_ h
 have:=Great.fill_whole (s:=ie.size) (by rw [hs];exact h0) [.agg cs.toArray] ((Array.range (1*ie.size)).map (z.cells[· %z.cells.size]!)) (by simp [Value.cells,hs]) (by simp)
 simpa [hx,Value.cells] using this
theorem AG.range {W:World} {b:Nat} {t:TypeId} {vs:List Value} (h:AG W b t vs):W.rangeAt b 0 vs:=fun j v hv=>by rw [zq];exact h.cell hv
theorem AG.there {W:World} {b:Nat} {t:TypeId} {vs:List Value} (h:AG W b t vs) (n:Nat) (hn:n<=vs.length):W.there b 0 n:=fun j hj=>by
 rw [zq]
 exact ⟨by rw [h.cell (zz (show j<vs.length by omega))];rfl,h.frozen j⟩
theorem Mg {α:Type} (L cs:List α) (h:cs.length=L.length):splice L 0 cs=cs:=by simp [splice,h]
theorem QG {W:World} {g:Nat} {t:TypeId} {vs:List Value} (h:AG W g t vs) (cs:List Value):AG (W.setRow g cs.toArray) g t cs:=by
 unfold AG at h ⊢
 exact setRow_heap W g _ _ t _ h
section
variable {P : Program} (w : World)
theorem IV:∀(xs ys:List Int),xs.length=ys.length->((List.range xs.length).all fun i=>xs.getD i 0==ys.getD i 0)=(xs==ys)
 |[],[],_=>rfl
 |x::xs,y::ys,h=>by
  have ih:=IV xs ys (by simpa using h)
  rw [List.length_cons,List.range_succ_eq_map,List.all_cons,List.all_map]
  simp only [List.getD_cons_zero,Function.comp_def,List.getD_cons_succ,ih]
  simp [List.cons_beq_cons]
 |[],_::_,h=>by simp at h
 |_::_,[],h=>by simp at h
theorem Gx (d:Nat) (t e:TypeId) (n:Nat) (k:IntKind) (ht:P.underlying t=some (.array n e)) (he:P.underlying e=some (.int k)) (hsz:∀w,(sizeOf e).run P w= .ok 1 w)
  (xs ys:List Int) (hx:xs.length=n) (hy:ys.length=n):
  (Op.equalIn (d+2) t (.agg (xs.map (Value.int k)).toArray) (.agg (ys.map (Value.int k)).toArray)).run P w= .ok (xs==ys) w:=by
 rw [<-IV xs ys (hx.trans hy.symm),hx,List.range_eq_range',Op.equalIn]
 simp only [Sem.run_bind,run_underlying ht,yk,hsz,Std.Legacy.Range.forIn_eq_forIn_range',Std.Legacy.Range.size,Nat.sub_zero,Nat.add_sub_cancel,Nat.div_one]
 have hl:∀i∈List.range' 0 n 1,i<n:=fun i hi=>by simpa using (List.mem_range'_1.1 hi).2
 generalize List.range' 0 n 1=l at hl ⊢
 induction l with
 |nil=>simp
 |cons i l ih=>
  have hi:i<n:=hl i (by simp)
  have px:(part e (xs.map (Value.int k)).toArray (i*1)).run P w= .ok (.int k (xs.getD i 0)) w:=by
   simp [part,isAgg,run_underlying he,List.getD,zz (show i<xs.length by omega)]
  have py:(part e (ys.map (Value.int k)).toArray (i*1)).run P w= .ok (.int k (ys.getD i 0)) w:=by
   simp [part,isAgg,run_underlying he,List.getD,zz (show i<ys.length by omega)]
  have pe:(Op.equalIn (d+1) e (.int k (xs.getD i 0)) (.int k (ys.getD i 0))).run P w= .ok (xs.getD i 0==ys.getD i 0) w:=run_equalIn_int w d e k k _ _ he
  simp only [List.forIn_cons,Sem.run_bind,px,py,pe,yk,List.all_cons]
  cases hb:(xs.getD i 0==ys.getD i 0)
  ·simp
  ·simp only [Bool.not_true,Bool.false_eq_true,if_false,Sem.run_pure,yk,Bool.true_and]
   exact ih fun j hj=>hl j (by simp [hj])
end
end
section
open Go.RowKit
theorem KE {P:Program} {ops:Array Oper} {C:World->Prop} {Q:Act->Prop} {a:Act} {o:Oper} {rest:List Oper} (hw:Region.wanted o (yielded ops a.tmps)=true) (ty:TypeId) (x:Operand) (ho:o.op= .load ty x)
  (b off:Nat) (hx:a.eval x= pq b off) (cs:List Value) (d:TypeDesc) (hc:∀w,C w->w.rangeAt b off cs) (hu:P.underlying ty=some d) (hd:d.isRow=true) (hi:(P.info? ty).map (·.size)=some cs.length)
  (h:wpQuiet P ops C Q rest (a.put o.dst (.agg cs.toArray))):wpQuiet P ops C Q (o::rest) a:=by
 unfold wpQuiet
 rw [if_pos hw]
 refine ⟨.agg cs.toArray,fun w hC=> ?_,h⟩
 unfold Oper.quietAt execOp
 simp only [ho,hx,Instr.loadAt,Instr.sureAddr,Sem.run_bind,Sem.run_pure,yk,run_loadVar_mid w b off ty cs d (hc w hC) hu hd hi]
 exact ⟨rfl,rfl⟩
theorem LU {w:World} {b o:Nat} {cs:List Value} (h:w.rangeAt b o cs):∀w',(∃n,w'=w.drewN n)->w'.rangeAt b o cs:=by
 rintro w' ⟨n,rfl⟩ j v hv
 rw [World.cell?_drewN]
 exact h j v hv
theorem Ww (n:Int) (h0:0<=n) (h1:n<=255):IntKind.i64.wrap n=n:=by
 simp [IntKind.wrap,IntKind.bits,IntKind.signed];split<;>omega
theorem Mh:(Tryz.prog.info? 136).map (·.size)=some 256:=by kernel_rfl
theorem fl (L:List Int) (h:L.length=256) (w:World):(Op.equalIn 10000 136 (.agg (AJ L).toArray) (.agg (AJ L).toArray)).run Tryz.prog w= .ok true w:=by
 have:=Gx (P:=Tryz.prog) w 9998 136 5 256 .u8 Tryz.underlying136 Tryz.underlying5 (fun _=>by kernel_rfl) L L h h
 simpa [AJ] using this
structure Pg where
 num:Int
 perm:Int
 bytes:List Int
def Gy (w:World) (g:Nat) (PS:List Pg):Prop:=∀i p,PS[i]? =some p->w.cell? (pK g (i*258))=some (.int .i64 p.num)/\w.cell? (pK g (i*258+1))=some (.int .u8 p.perm)/\w.rangeAt g (i*258+2) (AJ p.bytes)
def Dq (w:World) (g:Nat) (PS:List Pg):Prop:=∀i p,PS[i]? =some p->w.cell? (pK g (i*258))=some (.int .i64 p.num)/\w.cell? (pK g (i*258+1))=some (.int .i64 p.perm)/\w.rangeAt g (i*258+2) (AJ p.bytes)
theorem OY (aa ab:Option Addr) (ga gb ca cb:Nat) (PS:List Pg) (w:World) (ha:0<PS.length->aa=some (pK ga 0)) (hb:0<PS.length->ab=some (pK gb 0))
  (hA:Gy w ga PS) (hB:Dq w gb PS) (hp:∀p∈PS,0<=p.perm/\p.perm<=255/\p.bytes.length=256) (hn:PS.length<=100000):
  Calls Tryz.prog 113 #[.slice aa PS.length ca,.slice ab PS.length cb] w fun e w'=>e= .returned (.bool true)/\w'.heap=w.heap/\Below w.heap.size w w':=by
 have HA:=AC hA
 have HB:=AC hB
 have HP:=AC hp
 have HA1:=AC ha
 have HB1:=AC hb
 clear hA hB hp ha hb
 go_enter Tryz.func113,Tryz.ntmps113
 go_wp2
 go_loopw [5] (fun i wr=>∃k:Nat,k<=PS.length/\i= .int .i64 k/\wr.heap=w.heap/\Below w.heap.size w wr) (fun i _=>PS.length-(intOf i).toNat)
 case atStart=>exact ⟨0,by omega,rfl,rfl,zw _ _⟩
 case round=>
  obtain ⟨k,hk,rfl,hh,hbl⟩:=hrel
  have HH:=AC hh
  have HBL:=AC hbl
  clear hh hbl
  by_cases hlt:k<PS.length
  ·have e1:=(AB HA1) (by omega)
   have e2:=(AB HB1) (by omega)
   subst e1 e2
   obtain ⟨p,hpk⟩:∃p,PS[k]? =some p:=⟨_,zz hlt⟩
   have hcells:∀a,wr.cell? a=w.cell? a:=fun a=>by unfold World.cell?;rw [AB HH]
   have hpb:=(AB HP) p (zv hpk)
   obtain ⟨a1,a2,a3⟩:=(AB HA) k p hpk
   obtain ⟨b1,b2,b3⟩:=(AB HB) k p hpk
   obtain ⟨num,perm,bytes⟩:=p
   simp only at a1 a2 a3 b1 b2 b3 hpb
   rw [<-hcells] at a1 a2 b1 b2
   have a3':wr.rangeAt ga (k*258+2) (AJ bytes):=fun j v hv=>by rw [hcells];exact a3 j v hv
   have b3':wr.rangeAt gb (k*258+2) (AJ bytes):=fun j v hv=>by rw [hcells];exact b3 j v hv
   obtain ⟨p0,p1,p2⟩:=hpb
   have hq:=fl bytes p2
   have hu:=Tryz.underlying136
   obtain ⟨cs,hcs⟩:∃cs,cs=AJ bytes:=⟨_,rfl⟩
   have hl:cs.length=256:=by rw [hcs,AM,p2]
   have hi:(Tryz.prog.info? 136).map (·.size)=some cs.length:=by rw [Mh,hl]
   have h1:∀v∈cs,v.oneCell'=true:=by rw [hcs];intro v hv;obtain ⟨x,_,rfl⟩:=yw.1 hv;rfl
   obtain ⟨ds,hds⟩:∃ds,ds=AJ bytes:=⟨_,rfl⟩
   have hld:ds.length=256:=by rw [hds,AM,p2]
   have hid:(Tryz.prog.info? 136).map (·.size)=some ds.length:=by rw [Mh,hld]
   have h2:∀v∈ds,v.oneCell'=true:=by rw [hds,<-hcs];exact h1
   have hq:∀w,(Op.equalIn 10000 136 (.agg cs.toArray) (.agg ds.toArray)).run Tryz.prog w= .ok true w:=by rw [hcs,hds];exact hq
   rw [<-hcs] at a3'
   rw [<-hds] at b3'
   have hwp:=Ww perm p0 p1
   have hk0:(0:Int)<=(k:Int):=by omega
   have hk1:(k:Int)<(PS.length:Int):=by omega
   clear hcs hds a3 b3 hcells hpk p2
   go_wp2_with fail
   have HRA:=AC a3'
   have HRB:=AC b3'
   clear a3' b3'
   refine wp_region_quiet_lit (by kernel_rfl) (by kernel_rfl) ?_
   repeat (first|(refine KE (by rfl) 136 _ rfl ga (k*258+2) (by rfl) cs _ (LU (AB HRA)) hu rfl hi ?_;simp only [Act.put,zm,zj,zi])|(refine KE (by rfl) 136 _ rfl gb (k*258+2) (by rfl) ds _ (LU (AB HRB)) hu rfl hid ?_;simp only [Act.put,zm,zj,zi])|go_big_quiet_step (fail))
   refine wpQuiet_nil ?_
   intro _ hw'
   obtain ⟨nq,hw''⟩:=hw'
   subst hw''
   go_wp2
   go_roundw
   case rel=>exact ⟨k+1,by omega,by go_num,AB HH,⟨(AB HBL).os,(AB HBL).tape,(AB HBL).output,(AB HBL).size,(AB HBL).block⟩⟩
   case measure=>simp [intOf];omega
  ·go_wp2
   go_ret
   exact ⟨rfl,AB HH,AB HBL⟩
theorem QH (b off len cap:Nat) (t:TypeId) (L:List Int) (p:Nat) (n:Int) (w:World) (hrow:AG w b t (AJ L)) (hp:p+8<=len) (hL:off+len<=L.length) (hl:L.length<=100000) (n0:0<=n):
  Calls Tryz.prog 137 #[.slice (some (pK b off)) len cap,.int .i64 p,.int .u64 n] w fun e w'=>e= .returned (.tuple #[])/\AG w' b t (AJ (splice L (off+p) (A8 n)))/\w.grownBy w' (some b):=by
 have h8:=Bn n
 have H8:=AC h8
 have HW:=AC hrow
 clear h8 hrow
 go_enter Tryz.func137,Tryz.ntmps137
 go_wp2
 go_loopw [6] (fun i wr=>∃k:Nat,k<=8/\i= .int .i64 k/\AG wr b t (AJ (splice L (off+p) ((A8 n).take k)))/\w.grownBy wr (some b)) (fun i _=>8-(intOf i).toNat)
 case atStart=>exact ⟨0,by omega,rfl,by rw [List.take_zero,EB];exact AB HW,zk _ _⟩
 case round=>
  obtain ⟨k,hk,rfl,hr,hg⟩:=hrel
  by_cases hlt:k<8
  ·have ht:off+p+((A8 n).take k).length<=L.length:=by rw [yv,AB H8];omega
   have hc:∀j,j<L.length->wr.cell? (pK b j)=some (.int .u8 ((splice L (off+p) ((A8 n).take k)).getD j 0)):=fun j hj=>hr.bytes j (by rw [BE _ _ _ ht];exact hj)
   have hf:∀j,wr.frozen? (pK b j)=false:=fun j=>hr.frozen j
   have hin:off+(p+k)<L.length:=by omega
   have R:=hr.set (off+(p+k)) (.int .u8 (n/2^(8*k)%256))
   rw [Co,<-Nat.add_assoc,GE L (off+p) (A8 n) k _ (Me n k hlt) (by rw [AB H8];omega),Nat.add_assoc] at R
   have G:=AS hg (off+(p+k)) (.int .u8 (n/2^(8*k)%256))
   have HR:=AC R
   have HGG:=AC G
   clear hr hg ht R G
   go_wp2
   go_roundw
   case rel=>exact ⟨k+1,by omega,by go_num,AB HR,AB HGG⟩
   case measure=>simp [intOf];omega
  ·have e:k=8:=by omega
   subst e
   have HR:=AC hr
   clear hr
   go_wp2
   go_end0
   refine ⟨rfl,?_,hg⟩
   have:=AB HR
   rwa [yh (by rw [AB H8];omega)] at this
theorem KH (b off len cap:Nat) (t:TypeId) (L:List Int) (q wcap:Nat) (tq:TypeId) (ws:List Int) (w:World) (hrow:AG w b t (AJ L)) (hws:AG w q tq (Cw ws)) (hqb:q≠b)
  (hp:8*ws.length<=len) (hL:off+len<=L.length) (hl:L.length<=100000):
  Calls Tryz.prog 131 #[.slice (some (pK b off)) len cap,.slice (some (pK q 0)) ws.length wcap] w fun e w'=>e= .returned (.tuple #[])/\AG w' b t (AJ (splice L off (By ws)))/\w.grownBy w' (some b):=by
 have h8:=EV ws
 have H8:=AC h8
 have HW:=AC hrow
 have HQ:=AC hws
 clear h8 hrow hws
 go_enter Tryz.func131,Tryz.ntmps131
 go_wp2
 go_loopw [9] (fun i wr=>∃k:Nat,k<=ws.length/\i= .int .i64 k/\AG wr b t (AJ (splice L off ((By ws).take (8*k))))/\w.grownBy wr (some b)) (fun i _=>ws.length-(intOf i).toNat)
 case atStart=>exact ⟨0,by omega,rfl,by rw [Nat.mul_zero,List.take_zero,EB];exact AB HW,zk _ _⟩
 case round=>
  obtain ⟨k,hk,rfl,hr,hg⟩:=hrel
  by_cases hlt:k<ws.length
  ·obtain ⟨x,hx⟩:∃x,x=ws.getD k 0:=⟨_,rfl⟩
   have hq:wr.cell? (pK q k)=some (.int .u64 x):=by rw [hx];exact ((AB HQ).grown hg (by simp;omega)).cell (KB ws k hlt)
   have HX:=AC hx
   clear hx
   have HR:=AC hr
   have HGG:=AC hg
   clear hr hg
   go_wp2
   go_loopw [14] (fun i wr=>∃m:Nat,m<=8/\i= .int .i64 m/\AG wr b t (AJ (splice L off ((By ws).take (8*k+m))))/\w.grownBy wr (some b)) (fun i _=>8-(intOf i).toNat)
   case atStart=>exact ⟨0,by omega,rfl,AB HR,AB HGG⟩
   case round=>
    obtain ⟨m,hm,rfl,hr,hg⟩:=hrel
    by_cases hl8:m<8
    ·have ht:off+((By ws).take (8*k+m)).length<=L.length:=by rw [yv,AB H8];omega
     have hc:∀j,j<L.length->wr.cell? (pK b j)=some (.int .u8 ((splice L off ((By ws).take (8*k+m))).getD j 0)):=fun j hj=>hr.bytes j (by rw [BE _ _ _ ht];exact hj)
     have hf:∀j,wr.frozen? (pK b j)=false:=fun j=>hr.frozen j
     have hin:off+(k*8+m)<L.length:=by omega
     have R:=hr.set (off+(k*8+m)) (.int .u8 (x/2^(8*m)%256))
     rw [Co,show k*8+m=8*k+m from by omega,GE L off (By ws) (8*k+m) _ (by rw [AB HX];exact UJ ws k m hl8 hlt) (by rw [AB H8];omega),show 8*k+m=k*8+m from by omega] at R
     have G:=AS hg (off+(k*8+m)) (.int .u8 (x/2^(8*m)%256))
     have HR2:=AC R
     have HG2:=AC G
     clear hr hg ht R G
     go_wp2
     go_roundw
     case rel=>exact ⟨m+1,by omega,by go_num,by have:=AB HR2;rwa [show k*8+m+1=8*k+(m+1) from by omega] at this,AB HG2⟩
     case measure=>simp [intOf];omega
    ·have e:m=8:=by omega
     subst e
     have HR2:=AC hr
     have HG2:=AC hg
     clear hr hg
     go_wp2
     go_roundw
     case rel=>exact ⟨k+1,by omega,by go_num,by have:=AB HR2;rwa [show 8*k+8=8*(k+1) from by omega] at this,AB HG2⟩
     case measure=>simp [intOf];omega
  ·have e:k=ws.length:=by omega
   subst e
   have HR:=AC hr
   clear hr
   go_wp2
   go_end0
   refine ⟨rfl,?_,hg⟩
   have:=AB HR
   rwa [yh (by rw [AB H8];omega)] at this
theorem KI (l:List UInt8) (c:UInt8):0<=Lib.indexByte l c↔c∈l:=by
 induction l with
 |nil=>simp [Lib.indexByte]
 |cons b l ih=>
  unfold Lib.indexByte
  by_cases h:b=c
  ·simp [h]
  ·have h':c≠b:=fun e=>h e.symm
   simp only [List.mem_cons,h',false_or,<-ih]
   have hne:(b==c)=false:=by simpa using h
   simp only [hne]
   simp only [Bool.false_eq_true,if_false]
   by_cases g:Lib.indexByte l c= -1
   ·simp [g]
   ·have g':(Lib.indexByte l c== -1)=false:=by simpa using g
    simp only [g',Bool.false_eq_true,if_false]
    constructor<;>intro<;>omega
theorem PU (s:ByteArray) (w:World):Calls Tryz.prog 175 #[.string s,.int .u8 0] w fun e w'=>e= .returned (.int .i64 (Lib.indexByte s.data.toList 0))/\w'=w:=by
 have h76:= @run_callFunc_extern Tryz.prog 289 _ Extern.BytealgIndexByte.indexByte Tryz.func289 (by kernel_rfl) (by kernel_rfl) (by kernel_rfl) (by kernel_rfl)
 have hr:∀w,(Extern.BytealgIndexByte.indexByte #[.string s,.int .u8 0]).run Tryz.prog w= .ok (.int .i64 (Lib.indexByte s.data.toList 0)) w:=fun w=>Lib.run_indexByteString s 0 w
 generalize Lib.indexByte s.data.toList 0=r at*
 go_enter Tryz.func175,Tryz.ntmps175
 go_wp2
 go_ret
 exact ⟨rfl,rfl⟩
def DF (s:ByteArray):Bool:=decide (s.size<=30)&& !(s.data.toList.contains 0)
def CZ (ss:List ByteArray):Bool:=decide (ss.length<=8)&&ss.all DF
theorem UM {s:ByteArray} (h:30<s.size):DF s=false:=by simp [DF];omega
theorem UN {s:ByteArray} (h:0<=Lib.indexByte s.data.toList 0):DF s=false:=by
 have:=(KI _ _).1 h
 simp [DF,List.contains_iff_mem,this]
theorem Wx {s:ByteArray} (h:s.size<=30) (h0:Lib.indexByte s.data.toList 0<0):DF s=true:=by
 have:¬(0:UInt8)∈s.data.toList:=fun m=>by have:=(KI _ _).2 m;omega
 simp [DF,h,this]
theorem PV {ss:List ByteArray} {k:Nat} (hk:k<ss.length) (h:DF (ss.getD k ByteArray.empty)=false):ss.all DF=false:=by
 rw [List.all_eq_false]
 refine ⟨ss.getD k ByteArray.empty,?_,by rw [h];decide⟩
 simp [List.getD,zz hk]
theorem Rp {ss:List ByteArray} {k:Nat} (hk:k<ss.length) (h:DF (ss.getD k ByteArray.empty)=true) (ht:(ss.take k).all DF=true):(ss.take (k+1)).all DF=true:=by
 rw [List.take_succ_eq_append_getElem hk,List.all_append,ht]
 simp [List.getD,zz hk] at h
 simp [h]
theorem LX (a:Option Addr) (b off cap:Nat) (ss:List ByteArray) (w:World) (hn:ss.length<=1000) (ha:0<ss.length->a=some (pK b off))
  (hcell:∀i,i<ss.length->w.cell? (pK b (off+i))=some (.string (ss.getD i ByteArray.empty))):
  Calls Tryz.prog 130 #[.slice a ss.length cap] w fun e w'=>e= .returned (.bool (CZ ss))/\w'=w:=by
 by_cases h8:8<ss.length
 ·have hr:CZ ss=false:=by simp [CZ];omega
  rw [hr]
  clear hr hcell ha
  go_enter Tryz.func130,Tryz.ntmps130
  go_wp2
  go_ret
  exact ⟨rfl,rfl⟩
 ·have hr:CZ ss=ss.all DF:=by simp [CZ];intro;omega
  rw [hr]
  have HC:=AC hcell
  have HA:=AC ha
  clear hr hcell ha
  go_enter Tryz.func130,Tryz.ntmps130
  go_wp2
  go_loop [10] (fun i=>∃k:Nat,k<=ss.length/\i= .int .i64 k/\(ss.take k).all DF=true) (fun i=>ss.length-(intOf i).toNat)
  case atStart=>exact ⟨0,by omega,rfl,rfl⟩
  case round=>
   obtain ⟨k,hk,rfl,hall⟩:=hrel
   have HALL:=AC hall
   clear hall
   by_cases hlt:k<ss.length
   ·have hca:=(AB HC) k hlt
    have e:=(AB HA) (by omega)
    subst e
    obtain ⟨s,hs⟩:∃s,s=ss.getD k ByteArray.empty:=⟨_,rfl⟩
    rw [<-hs] at hca
    have HS:=AC hs
    clear hs
    by_cases hl:s.size<=30
    ·obtain ⟨r,hr⟩:∃r,r=Lib.indexByte s.data.toList 0:=⟨_,rfl⟩
     have HR:=AC hr
     clear hr
     by_cases h0:0<=r
     ·have F:=AC (PV hlt (by rw [<-AB HS];exact UN (by rw [<-AB HR];exact h0)))
      go_wp2_with (go_at_call 175;refine (PU _ _).mono ?_;rw [<-AB HR];rintro e w' ⟨rfl,rfl⟩)
      go_ret
      exact ⟨by rw [AB F];rfl,rfl⟩
     ·have F:=AC (Rp hlt (by rw [<-AB HS];exact Wx hl (by rw [<-AB HR];omega)) (AB HALL))
      go_wp2_with (go_at_call 175;refine (PU _ _).mono ?_;rw [<-AB HR];rintro e w' ⟨rfl,rfl⟩)
      go_round
      case rel=>exact ⟨k+1,by omega,by go_num,AB F⟩
      case measure=>simp [intOf];omega
    ·have F:=AC (PV hlt (by rw [<-AB HS];exact UM (by omega)))
     go_wp2_with fail
     go_ret
     exact ⟨by rw [AB F];rfl,rfl⟩
   ·have F:=AC (show ss.all DF=true by have:=AB HALL;rwa [yh (by omega)] at this)
    go_wp2
    go_ret
    exact ⟨by rw [AB F];rfl,rfl⟩
def Fu (s:ByteArray):List Int:=s.data.toList.map fun c=>(c.toNat:Int)
theorem IW (s:ByteArray):(Fu s).length=s.size:=by simp [Fu]
def Bg:List ByteArray->Nat
 |[]=>0
 |s::r=>s.size+1+Bg r
def KJ:List Int:=List.replicate 512 0
theorem MJ:KJ.length=512:=List.length_replicate
def room:List ByteArray->List Int
 |[]=>KJ
 |s::r=>splice (room r) (512-Bg (s::r)) (Fu s)
def ED:List ByteArray->List Int
 |[]=>[]
 |s::r=>((65024+(512-Bg (s::r)):Nat):Int)::ED r
theorem DG:∀ss,(ED ss).length=ss.length
 |[]=>rfl
 |s::r=>by simp [ED,DG r]
theorem DH:∀ss,Bg ss<=512->(room ss).length=512
 |[],_=>MJ
 |s::r,h=>by
  unfold room
  have h':Bg r<=512:=by unfold Bg at h;omega
  rw [BE _ _ _ (by rw [DH r h',IW];unfold Bg at h ⊢;omega),DH r h']
theorem ZO {ss:List ByteArray} (h:ss.all DF=true):Bg ss<=31*ss.length:=by
 induction ss with
 |nil=>simp [Bg]
 |cons s r ih=>
  simp only [List.all_cons,Bool.and_eq_true] at h
  have h1:=h.1
  simp [DF] at h1
  have:=ih h.2
  simp only [Bg,List.length_cons]
  omega
theorem ZP {ss:List ByteArray} (h:ss.all DF=true) (k:Nat):(ss.drop k).all DF=true:=by
 rw [zb] at h ⊢
 exact fun x hx=>h x (List.mem_of_mem_drop hx)
theorem Jk {ss:List ByteArray} (h:CZ ss=true):ss.length<=8/\ss.all DF=true:=by
 simpa [CZ] using h
theorem Cr {ss:List ByteArray} (h:CZ ss=true) (k:Nat):Bg (ss.drop k)<=248:=by
 have h1:=Jk h
 have:=ZO (ZP h1.2 k)
 simp at this
 omega
theorem JC {ss:List ByteArray} {k:Nat} (h:k<ss.length):ss.drop k=ss.getD k ByteArray.empty::ss.drop (k+1):=by
 rw [List.drop_eq_getElem_cons h]
 simp [List.getD,zz h]
theorem QI {ss:List ByteArray} (h:CZ ss=true) {k:Nat} (hk:k<ss.length):(ss.getD k ByteArray.empty).size<=30:=by
 have h1:=(zb.1 (Jk h).2) (ss.getD k ByteArray.empty) (by simp [List.getD,zz hk])
 simp [DF] at h1
 exact h1.1
def EE (ss:List ByteArray):Nat:=(512-Bg ss-8*(ss.length+2))/16*16
def EF (ss:List ByteArray):List Int:=((ss.length:Nat):Int)::(ED ss++[0])
theorem EN (ss:List ByteArray):(EF ss).length=ss.length+2:=by simp [EF,DG]
def Aa (ss:List ByteArray):List Int:=splice (room ss) (EE ss) (By (EF ss))
def EO (ss:List ByteArray) (k:Nat):List Int:=((ss.length:Nat):Int)::(List.replicate k 0++ED (ss.drop k)++[0])
theorem Mm (ss:List ByteArray) (k:Nat) (h:k<=ss.length):(EO ss k).length=ss.length+2:=by
 simp [EO,DG];omega
theorem QJ (ss:List ByteArray):EO ss 0=EF ss:=by simp [EO,EF]
theorem QK (ss:List ByteArray) (k:Nat) (h:k<ss.length):
  (EO ss (k+1)).set (k+1) ((65024+(512-Bg (ss.drop k)):Nat):Int)=EO ss k:=by
 unfold EO
 rw [zj]
 congr 1
 rw [JC h,ED]
 rw [List.replicate_succ',ye,ye,ye]
 rw [List.set_append_right _ _ (by simp)]
 simp
def KL:Array Value:=(AJ KJ).toArray
theorem Rq (old:Value) (w:World):(Instr.alloc 278 true old).run Tryz.prog w= .ok (pq w.heap.size 0) (w.alloc (.cells KL 278)):=by kernel_rfl
def Av (num perm:Int) (bytes:List Int):List Value:= .int .i64 num:: .int .u8 perm::AJ bytes
def Aq:List Int:=List.replicate 256 0
theorem Ak:Aq.length=256:=List.length_replicate
def Wy:Array Value:=(Av 0 0 Aq++Av 0 0 Aq).toArray
theorem Wz (w:World):(Instr.makeSlice 160 (.int .i64 2) (.int .i64 2)).run Tryz.prog w= .ok (.slice (some (pK w.heap.size 0)) 2 2) (w.alloc (.cells Wy 166)):=by kernel_rfl
end
section
open Go Go.RowKit
theorem KP {w:World} {g:Nat} (cs:Array Value):w.grownBy (w.setRow g cs) (some g):=
 ⟨rfl,rfl,rfl,by simp [World.setRow],fun k hk hne=>setRow_other w g k cs (fun e=>hne (by simp [e]))⟩
theorem Gm {P:Program} {ops:Array Oper} {o:Oper} {a:Act} {w:World} {K:Act->World->Prop} {Q:Exit->Act->World->Prop} {E:Prop} (hgd:o.guard=none) (d s:Operand) (dT sT:TypeId)
  (ho:o.op= .call {callee:= .builtin .copy,args:=#[d,s],argTypes:=#[dT,sT]}) (elem:TypeId) (hu:P.underlying dT=some (.slice elem)) (hsz:(P.info? elem).map (·.size)=some 1)
  (g off dLen dCap:Nat) (str:ByteArray) (hd:a.eval d= .slice (some (pK g off)) dLen dCap) (hs:a.eval s= .string str)
  (cur:List Value) (t:TypeId) (hg:AG w g t cur) (hle:str.size<=dLen) (hfit:off+str.size<=cur.length)
  (h:∀w',Hid (AG w' g t (splice cur off (Lib.byteCells str.data.toList)))->w.grownBy w' (some g)->K (a.put o.dst (goInt str.size)) w'):
  if Region.wanted o (yielded ops a.tmps)=true then Oper.wp P o a w K Q else E:=by
 have hw:Region.wanted o (yielded ops a.tmps)=true:=by simp [Region.wanted,hgd]
 rw [if_pos hw]
 have hrun:=Lib.run_copy_row_string (P:=P) w dT sT o.type elem g off dLen dCap str cur.toArray t hu hsz hg hle (by simpa using hfit)
 have hlen:(Lib.byteCells str.data.toList).length=str.size:=by rw [Lib.byteCells_length,<-Lib.size_eq]
 unfold Oper.wp
 simp [execOp,ho,resolve,invoke,builtin,hd,hs,hrun,Result.andThen]
 refine h _ ?_ (KP _)
 show AG _ _ _ _
 unfold AG
 rw [setRow_heap w g _ _ t _ hg]
 unfold splice
 rw [hlen]
theorem EW {P:Program} {ops:Array Oper} {o:Oper} {a:Act} {w:World} {K:Act->World->Prop} {Q:Exit->Act->World->Prop} {E:Prop} (hgd:o.guard=none) (d s:Operand) (dT sT:TypeId)
  (ho:o.op= .call {callee:= .builtin .copy,args:=#[d,s],argTypes:=#[dT,sT]}) (elem:TypeId) (hu:P.underlying dT=some (.slice elem)) (hsz:(P.info? elem).map (·.size)=some 1)
  (g off dLen dCap:Nat) (q qo sLen sCap:Nat) (hd:a.eval d= .slice (some (pK g off)) dLen dCap) (hs:a.eval s= .slice (some (pK q qo)) sLen sCap)
  (cur:List Value) (t:TypeId) (hg:AG w g t cur) (cs:List Value) (hn:cs.length=Nat.min sLen dLen) (hsrc:∀j v,cs[j]? =some v->w.cell? (pK q (qo+j))=some v)
  (h1:∀v∈cs,v.oneCell'=true) (hfit:off+cs.length<=cur.length)
  (h:∀w',Hid (AG w' g t (splice cur off cs))->w.grownBy w' (some g)->K (a.put o.dst (goInt cs.length)) w'):
  if Region.wanted o (yielded ops a.tmps)=true then Oper.wp P o a w K Q else E:=by
 have hw:Region.wanted o (yielded ops a.tmps)=true:=by simp [Region.wanted,hgd]
 rw [if_pos hw]
 have hrun:=run_copy_row (P:=P) w dT sT o.type elem g off dLen dCap (pK q qo) sLen sCap cur.toArray t cs hu hsz hg hn (fun j v hv=>by rw [show ((pK q qo):Addr).add j=(pK q (qo+j)) from by unfold Addr.add;split<;>simp_all];exact hsrc j v hv) (by simpa using hfit) h1
 unfold Oper.wp
 simp [execOp,ho,resolve,invoke,builtin,hd,hs,hrun,Result.andThen]
 refine h _ ?_ (KP _)
 show AG _ _ _ _
 unfold AG
 rw [setRow_heap w g _ _ t _ hg]
 simp [splice]
end
section
open Go.Shelf
def SH:Go.Shelf.Ren:=⟨fun|6=>123|15=>172|14=>171|28=>220|29=>221|20=>212|21=>213|22=>214|23=>215|24=>216|25=>217|26=>218|27=>219|46=>284|47=>285|48=>286|49=>287|50=>288|57=>351|n=>n,fun|22=>265|24=>270|25=>272|3=>3|39=>29|0=>0|53=>386|55=>75|4=>4|46=>380|45=>379|50=>263|5=>5|9=>9|66=>405|70=>409|76=>475|77=>130|n=>n,fun|n=>n⟩
theorem cQ:Go.Proofs.SlLaysF0.n6 Tryz.prog SH:={
 mixed:=by kernel_rfl
 f6:=⟨Tryz.f123.name,by decide,Tryz.func123.trans (congrArg some (by kernel_rfl))⟩
 f14:=⟨Tryz.f171.name,by decide,Tryz.func171.trans (congrArg some (by kernel_rfl))⟩
 f15:=Tryz.func172.trans (congrArg some (by kernel_rfl))
 f20:=⟨Tryz.f212.name,by decide,Tryz.func212.trans (congrArg some (by kernel_rfl))⟩
 f21:=⟨Tryz.f213.name,by decide,Tryz.func213.trans (congrArg some (by kernel_rfl))⟩
 f22:=⟨Tryz.f214.name,by decide,Tryz.func214.trans (congrArg some (by kernel_rfl))⟩
 f23:=⟨Tryz.f215.name,by decide,Tryz.func215.trans (congrArg some (by kernel_rfl))⟩
 f24:=⟨Tryz.f216.name,by decide,Tryz.func216.trans (congrArg some (by kernel_rfl))⟩
 f25:=⟨Tryz.f217.name,by decide,Tryz.func217.trans (congrArg some (by kernel_rfl))⟩
 f26:=⟨Tryz.f218.name,by decide,Tryz.func218.trans (congrArg some (by kernel_rfl))⟩
 f27:=⟨Tryz.f219.name,by decide,Tryz.func219.trans (congrArg some (by kernel_rfl))⟩
 f28:=Tryz.func220.trans (congrArg some (by kernel_rfl))
 f29:=Tryz.func221.trans (congrArg some (by kernel_rfl))
 f46:=⟨Tryz.f284.name,by decide,Tryz.func284.trans (congrArg some (by kernel_rfl))⟩
 f47:=Tryz.func285.trans (congrArg some (by kernel_rfl))
 f48:=Tryz.func286.trans (congrArg some (by kernel_rfl))
 f49:=⟨Tryz.f287.name,by decide,Tryz.func287.trans (congrArg some (by kernel_rfl))⟩
 f50:=⟨Tryz.f288.name,by decide,Tryz.func288.trans (congrArg some (by kernel_rfl))⟩
 f57:=⟨Tryz.f351.name,by decide,Tryz.func351.trans (congrArg some (by kernel_rfl))⟩
 t0:=Tryz.underlying0
 a0:=Tryz.isAgg0
 z0:=Tryz.sizeOf0
 v0:=Tryz.zeroValue0
 t3:=Tryz.underlying3
 a3:=Tryz.isAgg3
 z3:=Tryz.sizeOf3
 v3:=Tryz.zeroValue3
 t4:=Tryz.underlying4
 a4:=Tryz.isAgg4
 z4:=Tryz.sizeOf4
 v4:=Tryz.zeroValue4
 t5:=Tryz.underlying5
 a5:=Tryz.isAgg5
 z5:=Tryz.sizeOf5
 v5:=Tryz.zeroValue5
 t9:=Tryz.underlying9
 a9:=Tryz.isAgg9
 z9:=Tryz.sizeOf9
 v9:=Tryz.zeroValue9
 t22:=Tryz.underlying265
 a22:=Tryz.isAgg265
 z22:=Tryz.sizeOf265
 v22:=Tryz.zeroValue265
 t25:=Tryz.underlying272
 a25:=Tryz.isAgg272
 z25:=Tryz.sizeOf272
 v25:=Tryz.zeroValue272
 t39:=Tryz.underlying29
 a39:=Tryz.isAgg29
 z39:=Tryz.sizeOf29
 v39:=Tryz.zeroValue29
 t45:=Tryz.underlying379
 a45:=Tryz.isAgg379
 z45:=Tryz.sizeOf379
 v45:=Tryz.zeroValue379
 t46:=Tryz.underlying380
 a46:=Tryz.isAgg380
 z46:=Tryz.sizeOf380
 v46:=Tryz.zeroValue380
 t50:=Tryz.underlying263
 a50:=Tryz.isAgg263
 z50:=Tryz.sizeOf263
 v50:=Tryz.zeroValue263
 t53:=Tryz.underlying386
 a53:=Tryz.isAgg386
 z53:=Tryz.sizeOf386
 v53:=Tryz.zeroValue386
 t55:=Tryz.underlying75
 a55:=Tryz.isAgg75
 z55:=Tryz.sizeOf75
 v55:=Tryz.zeroValue75
 t66:=Tryz.underlying405
 a66:=Tryz.isAgg405
 z66:=Tryz.sizeOf405
 v66:=Tryz.zeroValue405
 t70:=Tryz.underlying409
 a70:=Tryz.isAgg409
 z70:=Tryz.sizeOf409
 v70:=Tryz.zeroValue409
 t76:=Tryz.underlying475
 a76:=Tryz.isAgg475
 z76:=Tryz.sizeOf475
 v76:=Tryz.zeroValue475
 t77:=Tryz.underlying130
 a77:=Tryz.isAgg130
 z77:=Tryz.sizeOf130
 v77:=Tryz.zeroValue130}
def SI:Go.Shelf.Ren:=⟨fun|125=>172|128=>220|129=>221|n=>n,fun|46=>29|3=>3|51=>386|53=>75|4=>4|5=>5|9=>9|n=>n,fun|n=>n⟩
theorem cR:Go.Proofs.Lays.n125 Tryz.prog SI:={
 mixed:=by kernel_rfl
 f125:=Tryz.func172.trans (congrArg some (by kernel_rfl))
 f128:=Tryz.func220.trans (congrArg some (by kernel_rfl))
 f129:=Tryz.func221.trans (congrArg some (by kernel_rfl))
 t3:=Tryz.underlying3
 a3:=Tryz.isAgg3
 z3:=Tryz.sizeOf3
 v3:=Tryz.zeroValue3
 t4:=Tryz.underlying4
 a4:=Tryz.isAgg4
 z4:=Tryz.sizeOf4
 v4:=Tryz.zeroValue4
 t5:=Tryz.underlying5
 a5:=Tryz.isAgg5
 z5:=Tryz.sizeOf5
 v5:=Tryz.zeroValue5
 t9:=Tryz.underlying9
 a9:=Tryz.isAgg9
 z9:=Tryz.sizeOf9
 v9:=Tryz.zeroValue9
 t46:=Tryz.underlying29
 a46:=Tryz.isAgg29
 z46:=Tryz.sizeOf29
 v46:=Tryz.zeroValue29
 t51:=Tryz.underlying386
 a51:=Tryz.isAgg386
 z51:=Tryz.sizeOf386
 v51:=Tryz.zeroValue386
 t53:=Tryz.underlying75
 a53:=Tryz.isAgg75
 z53:=Tryz.sizeOf75
 v53:=Tryz.zeroValue75}
end
end Go.Proofs.YtdchgbmliojoiaaGreatDoor
