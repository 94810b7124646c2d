import Derived.Test.YtdchgbmliojoiaaGreatDoorG20
import Derived.Lib.AppendZeros
import Derived.Lib.AppendZerosOnto
set_option maxRecDepth 100000
set_option maxHeartbeats 1000000
set_option linter.unusedVariables false
set_option linter.unusedSimpArgs false
namespace Go.Proofs.YtdchgbmliojoiaaGreatDoor
open Go Go.RowKit Go.Maps
theorem Qj (tb b:Nat) (o:Int) (a:Option Addr) (c:Nat) (w:World):
  Calls Tryz.prog 68 #[pq tb 0,pq b 0,.int .i64 o,.slice a 0 c] w fun e w'=>e= .returned .nilIface/\w'=w:=by
 go_enter Tryz.func68,Tryz.ntmps68
 go_wp2
 go_ret
 exact ⟨rfl,rfl⟩
theorem Qk (tb ab b:Nat) (n li used lb:Int) (n0 c0 n1 c1:Nat) (a0 a1:Option Addr) (w:World) (ht:AG w tb 175 [pq ab 0,.int .i64 n,.int .i64 li,.int .i64 used,.int .i64 lb]) (hb:w.cell? (pK b 2)=some (.slice a0 n0 c0)) (hn:0<=n/\n<=li) (hli:li<=1000000) (h1:0<n1) (hl0:n0<=1000000) (hl1:n1<=1000000) (hu:0<=used/\used<=1000000/\0<=lb/\lb<=1000000) (hf:lb-used<((n1-n0:Nat):Int)):
  Calls Tryz.prog 68 #[pq tb 0,pq b 0,.int .i64 0,.slice a1 n1 c1] w fun e w'=>e=Br 12/\Below w.heap.size w w':=by
 have t3:w.cell? (pK tb 3)=some (.int .i64 used):=ht.cell rfl
 have t4:w.cell? (pK tb 4)=some (.int .i64 lb):=ht.cell rfl
 have k1:((n1:Int)==0)=false:=by simp;omega
 have k2:max (0:Int) ((n1:Int)-(n0:Int))=((n1-n0:Nat):Int):=by omega
 have HRM:=AC (FV tb ab n li used lb 0 ((n1-n0:Nat):Int) w ht ⟨hn.1,by omega⟩ ⟨by omega,hli⟩ ⟨hu.1,hu.2.1⟩ hu.2.2)
 rw [decide_eq_false (show ¬((n1-n0:Nat):Int)<=lb-used by omega),Bool.and_false] at HRM
 clear ht t3 t4
 go_enter Tryz.func68,Tryz.ntmps68
 go_upto_region 4 with fail
 go_wp2_with fail
 refine (AB HRM).mono ?_
 rintro e w1 ⟨rfl,_,hbw⟩
 have HBW:=AC hbw
 clear hbw HRM
 go_wp2
 go_ret
 exact ⟨rfl,AB HBW⟩
theorem Ez (n:Nat):Builtin.zeroCells (Value.int .u8 0).cells n=(AJ (List.replicate n 0)).toArray:=by
 have h:(Value.int .u8 0).cells=#[.int .u8 0]:=rfl
 rw [h]
 apply Array.ext
 ·simp [Builtin.zeroCells,AJ]
 ·intro j h1 h2
  simp [Builtin.zeroCells,AJ,Nat.mod_one]
theorem WT:(Tryz.prog.info? 5).map (fun i=>(i.zero,i.size,i.bytes))=some (some (.int .u8 0),1,1):=by kernel_rfl
theorem Sx {pth:ByteArray} (tb ab b q o:Nat) (n li used lb:Int) (n1 c1:Nat) (mv:Value) (L:List Int) (w:World) (hL:L.length=n1) (hq:q<w.heap.size) (hqt:q≠tb) (hqb:q≠b) (hv:BC w q o L) (ht:AG w tb 175 [pq ab 0,.int .i64 n,.int .i64 li,.int .i64 used,.int .i64 lb]) (hb:AG w b 258 [.string pth,.bool false,.slice none 0 0,mv,.int .i64 0]) (hn:0<=n/\n<=li) (hli:li<=1000000) (h1:0<n1) (hl1:n1<=1000000) (hu:0<=used/\used<=1000000/\0<=lb/\lb<=1000000) (hf:(n1:Int)<=lb-used):
  Calls Tryz.prog 68 #[pq tb 0,pq b 0,.int .i64 0,.slice (some (pK q o)) n1 c1] w fun e w'=>e= .returned .nilIface/\AG w' tb 175 [pq ab 0,.int .i64 n,.int .i64 li,.int .i64 (used+(n1:Int)),.int .i64 lb]/\Al w w' tb b/\∃R cp,w.heap.size<=R/\n1<=cp/\cp<=maxLen/\AG w' b 258 [.string pth,.bool false,.slice (some (pK R 0)) n1 cp,mv,.int .i64 0]/\AG w' R 5 (AJ (L++List.replicate (cp-n1) 0)):=by
 have t3:w.cell? (pK tb 3)=some (.int .i64 used):=ht.cell rfl
 have t4:w.cell? (pK tb 4)=some (.int .i64 lb):=ht.cell rfl
 have f3:=ht.frozen 3
 have b1:w.cell? (pK b 2)=some (.slice none 0 0):=hb.cell rfl
 have k1:((n1:Int)==0)=false:=by simp;omega
 have k2:max (0:Int) ((n1:Int))=(n1:Int):=by omega
 have hbt:b≠tb:=Aw hb ht (by decide)
 have HT:=AC ht
 have HB:=AC hb
 have HV:=AC hv
 have HRM:=AC (FV tb ab n li used lb 0 (n1:Int) w ht ⟨hn.1,by omega⟩ ⟨by omega,hli⟩ ⟨hu.1,hu.2.1⟩ hu.2.2)
 rw [decide_eq_true (show (0:Int)<=li-n by omega),decide_eq_true hf,Bool.and_true] at HRM
 clear ht hb hv t3 t4 f3 hn hli
 go_enter Tryz.func68,Tryz.ntmps68
 go_upto_region 4 with fail
 go_wp2_with fail
 refine (AB HRM).mono ?_
 rintro e wq ⟨rfl,hhq,hbq⟩
 have HHQ:=AC hhq
 have HGQ:=AC (show w.grownBy wq (some tb) from ⟨hbq.os,hbq.tape,hbq.output,hbq.size,fun k hk _=>hbq.block k hk⟩)
 have t3:wq.cell? (pK tb 3)=some (.int .i64 used):=((AB HT).heap (W':=wq) hhq).cell rfl
 have f3:=((AB HT).heap (W':=wq) hhq).frozen 3
 have b0:wq.cell? (pK b 2)=some (.slice none 0 0):=((AB HB).heap (W':=wq) hhq).cell rfl
 clear hhq hbq HRM b1
 go_upto_region 7 with fail
 obtain ⟨W1,hW1⟩:∃W1,W1=wq.setCell (pK tb 3) (.int .i64 (used+(n1:Int))):=⟨_,rfl⟩
 rw [<-hW1]
 have hb1:AG W1 b 258 [.string pth,.bool false,.slice none 0 0,mv,.int .i64 0]:=by rw [hW1];exact ((AB HB).heap (W':=wq) (AB HHQ)).set_other hbt 3 _
 have ht1:AG W1 tb 175 [pq ab 0,.int .i64 n,.int .i64 li,.int .i64 (used+(n1:Int)),.int .i64 lb]:=by rw [hW1];exact ((AB HT).heap (W':=wq) (AB HHQ)).set 3 _
 obtain ⟨i,hi⟩:∃i,Tryz.prog.info? 5=some i:=by
  have:=WT
  cases h:Tryz.prog.info? 5 with
  |none=>rw [h] at this;cases this
  |some i=>exact ⟨i,rfl⟩
 have hii:i.zero=some (.int .u8 0)/\i.size=1/\i.bytes=1:=by
  have:=WT
  rw [hi] at this
  simpa using this
 have hap:=Go.Lib.run_append_nil_zeros (P:=Tryz.prog) W1 32 3 32 5 i (.int .u8 0) .i64 .i64 Tryz.underlying32 Tryz.underlying3 hi hii.1 n1 h1 (by omega) (by omega) (by rw [hii.2.2];omega)
 obtain ⟨cp,hcp⟩:∃cp,cp=grownCap W1 n1 0 5:=⟨_,rfl⟩
 rw [<-hcp] at hap
 obtain ⟨W2,hW2⟩:∃W2,W2=W1.drew.alloc (.cells (Builtin.zeroCells (Value.int .u8 0).cells n1++Builtin.zeroCells (Value.int .u8 0).cells (cp-n1)) 5):=⟨_,rfl⟩
 rw [<-hW2] at hap
 have b1':W1.cell? (pK b 2)=some (.slice none 0 0):=hb1.cell rfl
 have HAP:=AC hap
 have HB1:=AC hb1
 have HT1:=AC ht1
 have HW1:=AC hW1
 have HW2:=AC hW2
 have HCL:=AC (show n1<=cp/\cp<=maxLen from by rw [hcp];exact ⟨grownCap_ge _ _ _ _,grownCap_le_maxLen _ _ _ _ (by unfold maxLen;omega)⟩)
 clear hap hb1 ht1 hW1 hW2 hcp t3 f3 b0
 have hb2:AG W2 b 258 [.string pth,.bool false,.slice none 0 0,mv,.int .i64 0]:=by rw [AB HW2];exact ((AB HB1).heap (W':=W1.drew) rfl).alloc _
 have b2:W2.cell? (pK b 2)=some (.slice none 0 0):=hb2.cell rfl
 have g2:=hb2.frozen 2
 clear hb2
 go_upto_region 8 with (at_builtin;refine Lib.wpList_append_run _ rfl _ _ _ _ rfl _ _ rfl rfl _ _ (AB HAP) ?_)
 obtain ⟨R,hR⟩:∃R,R=W1.heap.size:=⟨_,rfl⟩
 rw [<-hR]
 obtain ⟨W3,hW3⟩:∃W3,W3=W2.setCell (pK b 2) (.slice (some (pK R 0)) n1 cp):=⟨_,rfl⟩
 rw [<-hW3]
 have hRs:W1.heap.size=w.heap.size:=by rw [AB HW1];simp [World.setCell,AB HHQ]
 have hbl:=(AB HB).lt
 have htl:=(AB HT).lt
 have hr2:AG W2 R 5 (AJ (List.replicate n1 0++List.replicate (cp-n1) 0)):=by
  rw [AB HW2,hR]
  have:=AG.new W1.drew 5 (AJ (List.replicate n1 0++List.replicate (cp-n1) 0))
  rw [Ez,Ez,show (AJ (List.replicate n1 0)).toArray++(AJ (List.replicate (cp-n1) 0)).toArray=(AJ (List.replicate n1 0++List.replicate (cp-n1) 0)).toArray by simp [AJ]]
  exact this
 have hr3:AG W3 R 5 (AJ (List.replicate n1 0++List.replicate (cp-n1) 0)):=by rw [hW3];exact hr2.set_other (by omega) 2 _
 have hn3:AG W3 b 258 [.string pth,.bool false,.slice (some (pK R 0)) n1 cp,mv,.int .i64 0]:=by rw [hW3,AB HW2];exact (((AB HB1).heap (W':=W1.drew) rfl).alloc _).set 2 _
 have ht3:AG W3 tb 175 [pq ab 0,.int .i64 n,.int .i64 li,.int .i64 (used+(n1:Int)),.int .i64 lb]:=by rw [hW3,AB HW2];exact (((AB HT1).heap (W':=W1.drew) rfl).alloc _).set_other hbt.symm 2 _
 have hf1:Al w W1 tb b:=by rw [AB HW1];exact (Al.refl w tb b).grownL (w'':=wq.setCell (pK tb 3) (.int .i64 (used+(n1:Int)))) (AS (w:=w) (wr:=wq) (b:=tb) (AB HGQ) 3 _)
 have hb12:Below W1.heap.size W1 W2:=by
  rw [AB HW2]
  have h:=(zw W1.drew.heap.size W1.drew).alloc (zx _) (.cells (Builtin.zeroCells (Value.int .u8 0).cells n1++Builtin.zeroCells (Value.int .u8 0).cells (cp-n1)) 5)
  exact ⟨h.os,h.tape,h.output,h.size,h.block⟩
 have hf3:Al w W3 tb b:=by rw [hW3];exact (hf1.step hb12).grownR (AS (w:=W2) (wr:=W2) ⟨rfl,rfl,rfl,zx _,fun _ _ _=>rfl⟩ 2 _)
 have hsrc:∀(j:Nat) (v:Value),(AJ L)[j]? =some v->W3.cell? (((pK q o):Addr).add j)=some v:=by
  intro j v hj
  have hjl:j<L.length:=by have:=(zy.1 hj).1;rwa [AM] at this
  rw [AT L j hjl] at hj
  obtain rfl:=zr hj
  have h:=(AB HV) j hjl
  have he:W3.cell? (pK q (o+j))=w.cell? (pK q (o+j)):=by unfold World.cell?;rw [hf3.block q hq hqt hqb]
  rw [show ((pK q o):Addr).add j=(pK q (o+j)) from by simp [Addr.add]]
  exact he.trans h
 have hln:(AJ L).length=Nat.min n1 n1:=by rw [AM,hL];simp
 have hft:0+(AJ L).length<=(AJ (List.replicate n1 0++List.replicate (cp-n1) 0)).length:=by rw [AM,AM,hL];simp
 have hrr:w.heap.size<=R:=by omega
 have HRR:=AC hrr
 have HR3:=AC (show W3.heap[R]? =some (.cells (AJ (List.replicate n1 0++List.replicate (cp-n1) 0)).toArray 5 (0,0)) from hr3)
 have HN3:=AC hn3
 have HT3:=AC ht3
 have HF3:=AC hf3
 have HSRC:=AC hsrc
 have HLN:=AC (And.intro hln hft)
 have c3:W3.cell? (pK b 2)=some (.slice (some (pK R 0)) n1 cp):=hn3.cell rfl
 have HLL:=AC hL
 clear hsrc hln hft hrr hr3 hn3 ht3 hf3 hf1 hb12 hr2 hRs hbl htl hW3 hR hL hq hqt hqb
 go_upto_region 9 with (refine wpList_copy_splice rfl _ _ 32 32 rfl 5 Tryz.underlying32 Le (some (pK R 0)) (some (pK q o)) n1 cp n1 c1 rfl rfl R 0 (AJ (List.replicate n1 0++List.replicate (cp-n1) 0)) 5 (AB HR3) (AJ L) (AB HLN).1 (fun _=>⟨rfl,(pK q o),rfl,AB HSRC⟩) (AB HLN).2 (DM _) R W3 (zw _ _) (zx _) ?_;intro w4 H4 hb4)
 have HP:=AC (show AG w4 tb 175 [pq ab 0,.int .i64 n,.int .i64 li,.int .i64 (used+(n1:Int)),.int .i64 lb]/\Al w w4 tb b/\∃R cp,w.heap.size<=R/\n1<=cp/\cp<=maxLen/\AG w4 b 258 [.string pth,.bool false,.slice (some (pK R 0)) n1 cp,mv,.int .i64 0]/\AG w4 R 5 (AJ (L++List.replicate (cp-n1) 0)) from by
  have hrr:=AB HRR
  have htl:=(AB HT).lt
  have hbl:=(AB HB).lt
  have hf3:=AB HF3
  refine ⟨(AB HT3).below hb4 (by omega),⟨hb4.os.trans hf3.os,hb4.tape.trans hf3.tape,hb4.output.trans hf3.output,zh hf3.size hb4.size,fun k hk h1 h2=>(hb4.block k (by omega)).trans (hf3.block k hk h1 h2)⟩,R,cp,hrr,(AB HCL).1,(AB HCL).2,(AB HN3).below hb4 (by omega),?_⟩
  have h:=AB H4
  rw [B4,show splice (List.replicate n1 (0:Int)++List.replicate (cp-n1) 0) 0 L=L++List.replicate (cp-n1) 0 from by simp [splice,AB HLL]] at h
  exact h)
 clear H4 hb4 HR3 HN3 HT3 HF3 HSRC HLN HRR c3
 go_wp2
 go_ret
 exact ⟨rfl,AB HP⟩
theorem Fo (A B:List Int):AJ (A++B)=AJ A++AJ B:=by simp [AJ]
theorem ed (n:Nat):(Builtin.zeroCells (Value.int .u8 0).cells n).toList=AJ (List.replicate n 0):=by rw [Ez]
theorem Sy (C T:List Int) (k:Nat) (hk:k<=T.length):splice (C++T) C.length (List.replicate k 0)=C++List.replicate k 0++T.drop k:=by
 unfold splice
 rw [List.take_left' rfl,List.length_replicate,List.drop_append]
 simp
theorem LB (w:World) (R c0 k:Nat) (C T:List Int) (h:AG w R 5 (AJ (C++T))) (hc:c0=C.length+T.length) (hcm:c0<=maxLen) (hl:C.length+k<=100000000):
  ∃R' cp T' w',(Builtin.append_ #[32,3] 32 #[.slice (some (pK R 0)) C.length c0,.int .i64 k]).run Tryz.prog w= .ok (.slice (some (pK R' 0)) (C.length+k) cp) w'/\AG w' R' 5 (AJ (C++List.replicate k 0++T'))/\cp=C.length+k+T'.length/\cp<=maxLen/\(R'=R/\w.grownBy w' (some R)\/R'=w.heap.size/\w.grownBy w' none):=by
 obtain ⟨i,hi⟩:∃i,Tryz.prog.info? 5=some i:=by
  have:=WT
  cases h:Tryz.prog.info? 5 with
  |none=>rw [h] at this;cases this
  |some i=>exact ⟨i,rfl⟩
 have hii:i.zero=some (.int .u8 0)/\i.size=1/\i.bytes=1:=by
  have:=WT
  rw [hi] at this
  simpa using this
 by_cases hg:c0<C.length+k
 ·have hold:(Builtin.firstCells i.size C.length (.slice (some (pK R 0)) C.length c0)).run Tryz.prog w.drew= .ok (AJ C).toArray w.drew:=by
   refine run_firstCells_some (P:=Tryz.prog) w.drew i.size C.length (pK R 0) C.length c0 (AJ C) (by rw [AM,hii.2.1,Nat.mul_one]) (fun j v hj=> ?_)
   have hd:AG w.drew R 5 (AJ (C++T)):=h.heap rfl
   rw [Addr.add_mid,zq]
   refine hd.cell ?_
   rw [Fo,zp (zy.1 hj).1]
   exact hj
  have hr:=Go.Lib.run_append_grow_zeros (P:=Tryz.prog) w 32 3 32 5 i (.int .u8 0) .i64 .i64 Tryz.underlying32 Tryz.underlying3 hi hii.1 (some (pK R 0)) C.length c0 (AJ C) hold k (by omega) (by omega) hg (by omega) (by rw [hii.2.2];omega) (growslice_fits hg (by rw [hii.2.2];omega))
  have hge:=grownCap_ge w (C.length+k) c0 5
  have hle:=grownCap_le_maxLen w (C.length+k) c0 5 (by unfold maxLen;omega)
  refine ⟨w.heap.size,grownCap w (C.length+k) c0 5,List.replicate (grownCap w (C.length+k) c0 5-(C.length+k)) 0,_,hr,?_,by simp;omega,hle,.inr ⟨rfl,?_⟩⟩
  ·rw [Ez,Ez,show (AJ C).toArray++(AJ (List.replicate k 0)).toArray++(AJ (List.replicate (grownCap w (C.length+k) c0 5-(C.length+k)) 0)).toArray=(AJ (C++List.replicate k 0++List.replicate (grownCap w (C.length+k) c0 5-(C.length+k)) 0)).toArray from by simp [AJ]]
   exact AG.new w.drew 5 _
  ·exact ⟨rfl,rfl,rfl,by simp,fun k hk _=>heap_alloc_old w.drew _ hk⟩
 ·have hkT:k<=T.length:=by omega
  refine ⟨R,c0,T.drop k,w.setCells R C.length (AJ (List.replicate k 0)),?_,?_,by simp;omega,hcm,.inl ⟨rfl,Es _ _ w (zk _ _)⟩⟩
  ·have hroom:C.length+k<=c0:=by omega
   have hst:=run_storeCells_cells (P:=Tryz.prog) R C.length (AJ (List.replicate k 0)) 0 w (fun j hj=>by
    rw [AM,List.length_replicate] at hj
    rw [Nat.add_zero,h.cell (AT _ (C.length+j) (by rw [zn];omega))]
    rfl) (fun j hj=>h.frozen _) (DM _)
   simp only [Nat.add_zero] at hst
   have hw:IntKind.i64.wrap (k:Int)=k:=by rw [yl];omega
   have hneg:¬((k:Int)<0):=by omega
   have h48:¬(281474976710656<(k:Int)):=by omega
   have hz:∀n,(Builtin.zeroCells (Value.int .u8 0).cells n).toList=AJ (List.replicate n 0):=ed
   by_cases hk0:k=0
   ·subst hk0
    have hroom0:C.length<=c0:=by omega
    have h0:(AJ (List.replicate 0 (0:Int)))=[]:=rfl
    rw [h0] at hst ⊢
    have hw0:IntKind.i64.wrap 0=0:=by rw [yl];decide
    simp [Builtin.append_,run_underlying Tryz.underlying32,run_underlying Tryz.underlying3,sizeOf,typeInfo,zeroValue,hi,hii.1,hii.2.1,hii.2.2,asInt,asIntOf,hw0,hroom0,Addr.add_lit,hst]
   ·simp [Builtin.append_,run_underlying Tryz.underlying32,run_underlying Tryz.underlying3,sizeOf,typeInfo,zeroValue,hi,hii.1,hii.2.1,hii.2.2,asInt,asIntOf,hw,hneg,h48,hroom,hk0,hz,Addr.add_lit,hst]
  ·have:=Er (AJ (List.replicate k 0)) C.length w _ h (by rw [AM,AM,List.length_replicate,zn];omega)
   rw [B4,Sy C T k hkT] at this
   exact this
theorem MO {P:Program} {ops:Array Oper} {rest:List Oper} {o:Oper} {a:Act} {w:World} {Q:Exit->Act->World->Prop} (hgd:o.guard=none) (d s:Operand) (dT sT:TypeId)
  (ho:o.op= .call {callee:= .builtin .copy,args:=#[d,s],argTypes:=#[dT,sT]}) (elem:TypeId) (hu:P.underlying dT=some (.slice elem)) (hsz:(P.info? elem).map (·.size)=some 1)
  (g off dLen dCap:Nat) (q qo sLen sCap:Nat) (hd:a.eval d= .slice (some (pK g off)) dLen dCap) (hs:a.eval s= .slice (some (pK q qo)) sLen sCap)
  (cur:List Value) (t:TypeId) (hg:AG w g t cur) (cs:List Value) (hn:cs.length=Nat.min sLen dLen) (hsrc:∀j v,cs[j]? =some v->w.cell? (pK q (qo+j))=some v)
  (h1:∀v∈cs,v.oneCell'=true) (hfit:off+cs.length<=cur.length)
  (h:∀w',Hid (AG w' g t (splice cur off cs))->Hid (w.grownBy w' (some g))->wpList P ops Q rest (a.put o.dst (goInt cs.length)) w'):wpList P ops Q (o::rest) a w:=by
 refine wpList_plain hgd fun K hK=> ?_
 have:=EW (P:=P) (ops:=ops) (o:=o) (a:=a) (w:=w) (K:=K) (Q:=Q) (E:=True) hgd d s dT sT ho elem hu hsz g off dLen dCap q qo sLen sCap hd hs cur t hg cs hn hsrc h1 hfit (fun w' h1 h2=>hK _ _ (h w' h1 h2))
 have hw:Region.wanted o (yielded ops a.tmps)=true:=by simp [Region.wanted,hgd]
 rw [if_pos hw] at this
 exact this
theorem MP (C T:List Int) (k:Nat) (L:List Int) (hk:k=L.length-C.length):splice (C++List.replicate k 0++T) 0 L=Ee C L++T:=by
 have key:(C++List.replicate k 0++T).drop L.length=C.drop L.length++T:=by
  by_cases h:C.length<=L.length
  ·rw [yg h,yc,List.drop_left' (by rw [zn,List.length_replicate];omega)]
  ·have:k=0:=by omega
   subst this
   rw [List.replicate_zero,xz,List.drop_append,show L.length-C.length=0 by omega,List.drop_zero]
 unfold splice Ee
 rw [zq,List.take_zero,yc,key,ye]
theorem Sz {pth:ByteArray} (tb ab b q o R0:Nat) (n li used lb:Int) (n1 c1 c0:Nat) (mv:Value) (L C T:List Int) (w:World) (hL:L.length=n1) (hq:q<w.heap.size) (hqt:q≠tb) (hqb:q≠b) (hqr:q≠R0) (hv:BC w q o L) (ht:AG w tb 175 [pq ab 0,.int .i64 n,.int .i64 li,.int .i64 used,.int .i64 lb]) (hb:AG w b 258 [.string pth,.bool false,.slice (some (pK R0 0)) C.length c0,mv,.int .i64 0]) (hr:AG w R0 5 (AJ (C++T))) (hc:c0=C.length+T.length) (hcm:c0<=maxLen) (hCl:C.length<=1000000) (hn:0<=n/\n<=li) (hli:li<=1000000) (h1:0<n1) (hl1:n1<=1000000) (hu:0<=used/\used<=1000000/\0<=lb/\lb<=1000000) (hf:((n1-C.length:Nat):Int)<=lb-used):
  Calls Tryz.prog 68 #[pq tb 0,pq b 0,.int .i64 0,.slice (some (pK q o)) n1 c1] w fun e w'=>e= .returned .nilIface/\AG w' tb 175 [pq ab 0,.int .i64 n,.int .i64 li,.int .i64 (used+((n1-C.length:Nat):Int)),.int .i64 lb]/\Bk w w' [tb,b,R0]/\∃R cp T',(R=R0\/w.heap.size<=R)/\cp=(Ee C L).length+T'.length/\cp<=maxLen/\AG w' b 258 [.string pth,.bool false,.slice (some (pK R 0)) (Ee C L).length cp,mv,.int .i64 0]/\AG w' R 5 (AJ (Ee C L++T')):=by
 have t3:w.cell? (pK tb 3)=some (.int .i64 used):=ht.cell rfl
 have t4:w.cell? (pK tb 4)=some (.int .i64 lb):=ht.cell rfl
 have f3:=ht.frozen 3
 obtain ⟨n0,hn0⟩:∃n0,n0=C.length:=⟨_,rfl⟩
 obtain ⟨mo,hmo⟩:∃mo,mo=n1-n0:=⟨_,rfl⟩
 obtain ⟨nn,hnn⟩:∃nn,nn=n0+mo:=⟨_,rfl⟩
 rw [<-hn0] at hb hCl hf hc ⊢
 rw [<-hmo] at hf ⊢
 have hov:(Ee C L).length=nn:=by rw [G2 (M:=max n1 n0) (by rw [hL,hn0])];omega
 rw [hov]
 have hn1n:n1<=nn:=by omega
 have hnl:nn<=2000000:=by omega
 have b1:w.cell? (pK b 2)=some (.slice (some (pK R0 0)) n0 c0):=hb.cell rfl
 have k1:((n1:Int)==0)=false:=by simp;omega
 have k2:max (0:Int) ((n1:Int)-(n0:Int))=(mo:Int):=by omega
 have hbt:b≠tb:=Aw hb ht (by decide)
 have hrt:R0≠tb:=Aw hr ht (by decide)
 have hrb:R0≠b:=Aw hr hb (by decide)
 have HT:=AC ht
 have HB:=AC hb
 have HV:=AC hv
 have HR0:=AC hr
 have HN:=AC (And.intro hn0 (And.intro hmo hnn))
 have HC:=AC hc
 have HOV:=AC hov
 have HRM:=AC (FV tb ab n li used lb 0 (mo:Int) w ht ⟨hn.1,by omega⟩ ⟨by omega,hli⟩ ⟨hu.1,hu.2.1⟩ hu.2.2)
 rw [decide_eq_true (show (0:Int)<=li-n by omega),decide_eq_true hf,Bool.and_true] at HRM
 clear ht hb hv hr hn0 hmo hnn hc hov t3 t4 f3 hn hli
 go_enter Tryz.func68,Tryz.ntmps68
 go_upto_region 4 with fail
 go_wp2_with fail
 refine (AB HRM).mono ?_
 rintro e wq ⟨rfl,hhq,hbq⟩
 have HHQ:=AC hhq
 have HGQ:=AC (show w.grownBy wq (some tb) from ⟨hbq.os,hbq.tape,hbq.output,hbq.size,fun k hk _=>hbq.block k hk⟩)
 have t3:wq.cell? (pK tb 3)=some (.int .i64 used):=((AB HT).heap (W':=wq) hhq).cell rfl
 have f3:=((AB HT).heap (W':=wq) hhq).frozen 3
 clear hhq hbq HRM b1
 go_upto_region 7 with fail
 obtain ⟨W1,hW1⟩:∃W1,W1=wq.setCell (pK tb 3) (.int .i64 (used+(mo:Int))):=⟨_,rfl⟩
 rw [<-hW1]
 have hb1:AG W1 b 258 [.string pth,.bool false,.slice (some (pK R0 0)) n0 c0,mv,.int .i64 0]:=by rw [hW1];exact ((AB HB).heap (W':=wq) (AB HHQ)).set_other hbt 3 _
 have hr1:AG W1 R0 5 (AJ (C++T)):=by rw [hW1];exact ((AB HR0).heap (W':=wq) (AB HHQ)).set_other hrt 3 _
 have ht1:AG W1 tb 175 [pq ab 0,.int .i64 n,.int .i64 li,.int .i64 (used+(mo:Int)),.int .i64 lb]:=by rw [hW1];exact ((AB HT).heap (W':=wq) (AB HHQ)).set 3 _
 have hf1:Bk w W1 [tb,b,R0]:=by rw [hW1];exact (Bk.refl w _).grown (r:=some tb) (AS (w:=w) (wr:=wq) (b:=tb) (AB HGQ) 3 _) (fun x hx=> .inl (by simp at hx;simp [hx]))
 have hs1:W1.heap.size=w.heap.size:=by rw [hW1];simp [World.setCell,AB HHQ]
 obtain ⟨R,cp,T',W2,hap,hr2,hcp,hcpm,hwh⟩:=LB W1 R0 c0 mo C T hr1 (by have:=(AB HN).1;have:=AB HC;omega) hcm (by have:=(AB HN).1;omega)
 rw [<-(AB HN).1,<-(AB HN).2.2] at hap hcp
 have hwR:R=R0\/w.heap.size<=R:=by rcases hwh with ⟨q1,_⟩|⟨q1,_⟩;exact .inl q1;exact .inr (by omega)
 have hRt:R≠tb:=by have:=(AB HT).lt;rcases hwR with q1|q1;rw [q1];exact hrt;omega
 have hRb:R≠b:=by have:=(AB HB).lt;rcases hwR with q1|q1;rw [q1];exact hrb;omega
 have hqR:q≠R:=by rcases hwR with q1|q1;rw [q1];exact hqr;omega
 have hg12:∃r,W1.grownBy W2 r/\(∀x,r=some x->x=R0):=by
  rcases hwh with ⟨_,q1⟩|⟨_,q1⟩
  ·exact ⟨some R0,q1,fun x hx=>by simpa using hx.symm⟩
  ·exact ⟨none,q1,fun x hx=>by cases hx⟩
 obtain ⟨r,hg12,hrx⟩:=hg12
 have hb2:AG W2 b 258 [.string pth,.bool false,.slice (some (pK R0 0)) n0 c0,mv,.int .i64 0]:=hb1.grown hg12 (fun e=>hrb (hrx _ e.symm).symm)
 have ht2:=ht1.grown hg12 (fun e=>hrt (hrx _ e.symm).symm)
 have hf2:Bk w W2 [tb,b,R0]:=hf1.grown hg12 (fun x hx=> .inl (by rw [hrx x hx];simp))
 have HAP:=AC hap
 have HB2:=AC hb2
 have HT2:=AC ht2
 have HR2:=AC hr2
 have HF2:=AC hf2
 have HCP:=AC (And.intro hcp (And.intro hcpm hwR))
 have b1':W1.cell? (pK b 2)=some (.slice (some (pK R0 0)) n0 c0):=hb1.cell rfl
 have b2:W2.cell? (pK b 2)=some (.slice (some (pK R0 0)) n0 c0):=hb2.cell rfl
 have g2:=hb2.frozen 2
 have HS1:=AC hs1
 clear hap hb1 ht1 hW1 hr1 hf1 t3 f3 hb2 ht2 hr2 hf2 hcp hcpm hwR hwh hg12 hrx hs1
 go_upto_region 8 with (at_builtin;refine Lib.wpList_append_run _ rfl _ _ _ _ rfl _ _ rfl rfl _ _ (AB HAP) ?_)
 obtain ⟨W3,hW3⟩:∃W3,W3=W2.setCell (pK b 2) (.slice (some (pK R 0)) nn cp):=⟨_,rfl⟩
 rw [<-hW3]
 have hr3:AG W3 R 5 (AJ (C++List.replicate mo 0++T')):=by rw [hW3];exact (AB HR2).set_other hRb 2 _
 have hn3:AG W3 b 258 [.string pth,.bool false,.slice (some (pK R 0)) nn cp,mv,.int .i64 0]:=by rw [hW3];exact (AB HB2).set 2 _
 have ht3:AG W3 tb 175 [pq ab 0,.int .i64 n,.int .i64 li,.int .i64 (used+(mo:Int)),.int .i64 lb]:=by rw [hW3];exact (AB HT2).set_other hbt.symm 2 _
 have hf3:Bk w W3 [tb,b,R0]:=by rw [hW3];exact (AB HF2).grown (AS (w:=W2) (wr:=W2) (b:=b) (zk _ _) 2 _) (fun x hx=> .inl (by simp at hx;simp [hx]))
 have hsrc:∀(j:Nat) (v:Value),(AJ L)[j]? =some v->W3.cell? (pK q (o+j))=some v:=by
  intro j v hj
  have hjl:j<L.length:=by have:=(zy.1 hj).1;rwa [AM] at this
  rw [AT L j hjl] at hj
  obtain rfl:=zr hj
  have h:=(AB HV) j hjl
  have he:W3.cell? (pK q (o+j))=w.cell? (pK q (o+j)):=by unfold World.cell?;rw [hf3.block q hq (by simp [hqt,hqb,hqr])]
  exact he.trans h
 have hln:(AJ L).length=Nat.min n1 nn:=by rw [AM,hL];exact (Nat.min_eq_left hn1n).symm
 have hft:0+(AJ L).length<=(AJ (C++List.replicate mo 0++T')).length:=by have:=AB HN;rw [AM,AM,hL];simp;omega
 have HR3:=AC hr3
 have HN3:=AC hn3
 have HT3:=AC ht3
 have HF3:=AC hf3
 have HSRC:=AC hsrc
 have HLN:=AC (And.intro hln hft)
 have c3:W3.cell? (pK b 2)=some (.slice (some (pK R 0)) nn cp):=hn3.cell rfl
 have HLL:=AC hL
 have HH:=AC (And.intro hRt hRb)
 clear hsrc hln hft hr3 hn3 ht3 hf3 hW3 hL hq hqt hqb hqr hqR hRt hRb b1' b2 g2
 go_upto_region 9 with (refine MO rfl _ _ 32 32 rfl 5 Tryz.underlying32 Le R 0 nn cp q o n1 c1 rfl rfl (AJ (C++List.replicate mo 0++T')) 5 (AB HR3) (AJ L) (AB HLN).1 (AB HSRC) (DM _) (AB HLN).2 ?_;intro w4 H4 G4)
 have HP:=AC (show AG w4 tb 175 [pq ab 0,.int .i64 n,.int .i64 li,.int .i64 (used+(mo:Int)),.int .i64 lb]/\Bk w w4 [tb,b,R0]/\∃R cp T',(R=R0\/w.heap.size<=R)/\cp=nn+T'.length/\cp<=maxLen/\AG w4 b 258 [.string pth,.bool false,.slice (some (pK R 0)) nn cp,mv,.int .i64 0]/\AG w4 R 5 (AJ (Ee C L++T')) from by
  have hcp:=AB HCP
  have hh:=AB HH
  refine ⟨(AB HT3).grown (AB G4) (by simpa using fun e=>hh.1 e.symm),(AB HF3).grown (AB G4) (fun x hx=> ?_),R,cp,T',hcp.2.2,hcp.1,hcp.2.1,(AB HN3).grown (AB G4) (by simpa using fun e=>hh.2 e.symm),?_⟩
  ·have hx:R=x:=by simpa using hx
   subst hx
   rcases hcp.2.2 with q1|q1
   ·exact .inl (by simp [q1])
   ·exact .inr q1
  ·have h:=AB H4
   have hn:=AB HN
   rw [B4,MP C T' mo L (by rw [AB HLL,<-hn.1];exact hn.2.1)] at h
   exact h)
 clear H4 G4 HR3 HN3 HT3 HF3 HSRC HLN HCP HH c3
 go_wp2
 go_ret
 exact ⟨rfl,AB HP⟩
def FW (w:World) (B:Nat) (v:Value) (c:List Int):Prop:=
 v= .slice none 0 0/\c=[]\/∃R cp T,v= .slice (some (pK R 0)) c.length cp/\AG w R 5 (AJ (c++T))/\cp=c.length+T.length/\cp<=maxLen/\B<=R
def Dm:Value->Option Nat
 | .slice (some a) _ _=>some a.block
 |_=>none
structure BY (w:World) (B tb ab am:Nat) (p:PK) (NB MB:List Nat) (V:List Value):Prop where
 tree:Ba w B tb ab am p.li p.lb (AU p.cs) p.xs NB MB V
 cont:∀(i:Nat) (v:Value) (c:List Int),V[i]? =some v->p.cs[i]? =some c->FW w B v c
 own:∀(i j:Nat) (v u:Value) (R:Nat),V[i]? =some v->V[j]? =some u->Dm v=some R->Dm u=some R->i=j
theorem FW.block {w w':World} {B:Nat} {v:Value} {c:List Int} (h:FW w B v c) (hk:∀R,Dm v=some R->R<w.heap.size->(∃L,AG w R 5 L)->w'.heap[R]? =w.heap[R]?):FW w' B v c:=by
 rcases h with h|⟨R,cp,T,h1,h2,h3⟩
 ·exact .inl h
 ·exact .inr ⟨R,cp,T,h1,Ab h2 (hk R (by rw [h1];rfl) h2.lt ⟨_,h2⟩),h3⟩
theorem FW.len {w:World} {B:Nat} {v:Value} {c:List Int} (h:FW w B v c):∃a cp,v= .slice a c.length cp:=by
 rcases h with ⟨h1,h2⟩|⟨R,cp,T,h1,_⟩
 ·exact ⟨none,0,by rw [h1,h2];rfl⟩
 ·exact ⟨_,_,h1⟩
theorem BY.below {w w':World} {B tb ab am:Nat} {p:PK} {NB MB:List Nat} {V:List Value} (h:BY w B tb ab am p NB MB V) (hb:Below w.heap.size w w'):BY w' B tb ab am p NB MB V:=
 ⟨h.tree.below hb,fun i v c hv hc=>(h.cont i v c hv hc).block fun R _ hl _=>hb.block R hl,h.own⟩
theorem S3 {w:World} {m R:Nat} {t:TypeId} {vs:List Value} (h:Sr w m) (hh:AG w R t vs):R≠m:=by
 intro e
 subst e
 obtain ⟨es,clock,hb⟩:=h
 unfold AG at hh
 rw [hb] at hh
 cases hh
theorem BY.grew {w w':World} {B tb ab am m:Nat} {p q:PK} {NB MB NB' MB':List Nat} {V:List Value} (h:BY w B tb ab am p NB MB V) (hi:Bo p) (hq:q.cs=p.cs++[[]]) (hf:Al w w' tb m) (hm:Sr w m) (ht:Ba w' B tb ab am q.li q.lb (AU p.cs) q.xs NB' MB' (V++[.slice none 0 0])):BY w' B tb ab am q NB' MB' (V++[.slice none 0 0]):=by
 have hl:V.length=p.cs.length:=by rw [h.tree.vlen,hi.len]
 refine ⟨by rw [hq,FK];exact ht,fun i v c hv hc=> ?_,fun i j v u R hv hu h1 h2=> ?_⟩
 ·rw [hq] at hc
  by_cases hil:i<V.length
  ·rw [zp hil] at hv
   rw [zp (by omega)] at hc
   exact (h.cont i v c hv hc).block fun R _ hl ⟨L,hL⟩=>hf.block R hl (Aw hL h.tree.tree (by decide)) (S3 hm hL)
  ·rw [zo (by omega)] at hv hc
   have hi0:i-V.length=0:=by have:=(zy.1 hv).1;simp at this;omega
   rw [hi0] at hv
   rw [<-hl,hi0] at hc
   simp at hv hc
   exact .inl ⟨hv.symm,hc⟩
 ·have hlt:∀(k:Nat) (x:Value),(V++[Value.slice none 0 0])[k]? =some x->Dm x=some R->k<V.length/\V[k]? =some x:=by
   intro k x hx hb
   by_cases hk:k<V.length
   ·rw [zp hk] at hx;exact ⟨hk,hx⟩
   ·rw [zo (by omega)] at hx
    have hk0:k-V.length=0:=by have:=(zy.1 hx).1;simp at this;omega
    rw [hk0] at hx
    simp at hx
    subst hx
    cases hb
  exact h.own i j v u R (hlt i v hv h1).2 (hlt j u hu h2).2 h1 h2
theorem Ba.wrote {pth:ByteArray} {w w':World} {B tb ab am:Nat} {li lb used used':Int} {xs:List Ino} {NB MB:List Nat} {V:List Value} (h:Ba w B tb ab am li lb used xs NB MB V) {i b:Nat} {x:Ino} {v' mv:Value} {S:List Nat} (hx:xs[i]? =some x) (hd:x.dir=false) (hb:NB[i]? =some b)
  (ht:AG w' tb 175 [pq ab 0,.int .i64 xs.length,.int .i64 li,.int .i64 used',.int .i64 lb]) (hn:AG w' b 258 [.string pth,.bool false,v',mv,.int .i64 0]) (hmv:mv= .map none)
  (hf:Bk w w' S) (hS:∀k∈S,k=tb\/k=b\/w.heap.size<=k\/∃L,AG w k 5 L):Ba w' B tb ab am li lb used' xs NB MB (V.set i v'):=by
 obtain ⟨hil,hxe⟩:=zy.1 hx
 have hbN:b∈NB:=zv hb
 have hnodeb:∃vs,AG w b 258 vs:=by
  obtain ⟨qn,v,mv,q,_⟩:=h.node i x b MB[i]! hx hb (by rw [List.getElem!_eq_getElem?_getD];rw [zz (by rw [h.len.2];exact hil)];rfl)
  exact ⟨_,q⟩
 have hold:∀(k:Nat) (t:TypeId) (vs:List Value),AG w k t vs->k≠tb->k≠b->t≠5->AG w' k t vs:=by
  intro k t vs hk h1 h2 h3
  refine Ab hk (hf.block k hk.lt fun e=> ?_)
  rcases hS k e with q|q|q|⟨L,q⟩
  ·exact h1 q
  ·exact h2 q
  ·have:=hk.lt;omega
  ·exact Aw hk q h3 rfl
 have hmap:∀(m n:Nat) (f:ByteArray->Option Nat),Ao w m n f->Ao w' m n f:=by
  intro m n f hm
  refine hm.block (hf.block m hm.lt fun e=> ?_)
  rcases hS m e with q|q|q|⟨L,q⟩
  ·exact Ce hm h.tree q.symm
  ·obtain ⟨vs,hvs⟩:=hnodeb;exact Ce hm hvs q.symm
  ·have:=hm.lt;omega
  ·exact Ce hm q rfl
 refine ⟨ht,hold ab _ _ h.above (Aw h.above h.tree (by decide)) (fun e=>h.apart.2.2.2 (e▸hbN)) (by decide),hmap _ _ _ h.amap,h.len,fun j y c m hy hc hm=> ?_,h.root,by rw [yx];exact h.vlen,h.apart,h.low.1,h.low.2.1,h.low.2.2.1,h.low.2.2.2.1,fun m hm=>⟨(h.low.2.2.2.2 m hm).1,by have:=(h.low.2.2.2.2 m hm).2;have:=hf.size;omega⟩⟩
 obtain ⟨qn,v1,mv1,h1,h2,h3⟩:=h.node j y c m hy hc hm
 by_cases hij:j=i
 ·subst hij
  rw [hx] at hy
  obtain rfl:=zr hy
  rw [hb] at hc
  obtain rfl:=zr hc
  refine ⟨pth,v',mv,by rw [hd];exact hn,fun q=>absurd q (by rw [hd];decide),?_,fun _=>hmv⟩
  rw [List.getElem?_set_self (by rw [h.vlen];exact hil)]
 ·have hcb:c≠b:=by
   intro e
   subst e
   obtain ⟨a1,a2⟩:=zy.1 hc
   obtain ⟨a3,a4⟩:=zy.1 hb
   exact hij ((List.getElem_inj h.apart.2.2.1).1 (a2.trans a4.symm))
  exact ⟨qn,v1,mv1,hold c _ _ h1 (Aw h1 h.tree (by decide)) hcb (by decide),fun q=>⟨(h2 q).1,hmap _ _ _ (h2 q).2⟩,by rw [List.getElem?_set_ne (fun e=>hij e.symm)];exact h3.1,h3.2⟩
theorem Ls:∀(cs:List (List Int)) (K:Nat) (c:List Int),K<cs.length->(AU (cs.set K c):Int)=AU cs-(cs.getD K []).length+c.length
 |[],K,c,h=>by simp at h
 |a::r,0,c,_=>by simp [AU];omega
 |a::r,K+1,c,h=>by
  have ih:=Ls r K c (by simpa using h)
  have e1:AU ((a::r).set (K+1) c)=a.length+AU (r.set K c):=by simp [AU]
  have e2:AU (a::r)=a.length+AU r:=by simp [AU]
  have e3:(a::r).getD (K+1) []=r.getD K []:=by simp
  rw [e1,e2,e3];omega
theorem BY.wrote {pth:ByteArray} {w w':World} {B tb ab am:Nat} {p:PK} {NB MB:List Nat} {V:List Value} (h:BY w B tb ab am p NB MB V) (hi:Bo p) {i b:Nat} {x:Ino} {v v' mv:Value} {c c':List Int} {S:List Nat} (hx:p.xs[i]? =some x) (hd:x.dir=false) (hb:NB[i]? =some b) (hc:p.cs[i]? =some c) (hv:V[i]? =some v)
  (ht:AG w' tb 175 [pq ab 0,.int .i64 p.xs.length,.int .i64 p.li,.int .i64 ((AU p.cs:Int)-c.length+c'.length),.int .i64 p.lb]) (hn:AG w' b 258 [.string pth,.bool false,v',mv,.int .i64 0]) (hmv:mv= .map none)
  (hf:Bk w w' S) (hS:∀k∈S,k=tb\/k=b\/w.heap.size<=k\/Dm v=some k) (hv':FW w' B v' c') (hnew:∀R,Dm v'=some R->w.heap.size<=R\/Dm v=some R):BY w' B tb ab am {p with cs:=p.cs.set i c'} NB MB (V.set i v'):=by
 have hil:=(zy.1 hx).1
 have hicl:i<p.cs.length:=by rw [hi.len];exact hil
 have hivl:i<V.length:=by rw [h.tree.vlen];exact hil
 have hhold:∀R,Dm v=some R->∃L,AG w R 5 L:=by
  intro R hR
  rcases h.cont i v c hv hc with ⟨q,_⟩|⟨R',cp,T,q1,q2,_⟩
  ·rw [q] at hR;cases hR
  ·rw [q1] at hR
   have:R'=R:=by simpa [Dm] using hR
   subst this
   exact ⟨_,q2⟩
 have hnb:∃vs,AG w b 258 vs:=by
  obtain ⟨qn,v,mv,q,_⟩:=h.tree.node i x b MB[i]! hx hb (by rw [List.getElem!_eq_getElem?_getD];rw [zz (by rw [h.tree.len.2];exact hil)];rfl)
  exact ⟨_,q⟩
 refine ⟨?_,fun j u d hu hd'=> ?_,fun j k u u' R hu hu' h1 h2=> ?_⟩
 ·have e:(AU (p.cs.set i c'):Int)=(AU p.cs:Int)-c.length+c'.length:=by
   rw [Ls p.cs i c' hicl,zl,hc];rfl
  show Ba w' B tb ab am p.li p.lb (AU (p.cs.set i c')) p.xs NB MB (V.set i v')
  rw [e]
  refine h.tree.wrote hx hd hb ht hn hmv hf fun k hk=> ?_
  rcases hS k hk with q|q|q|q
  ·exact .inl q
  ·exact .inr (.inl q)
  ·exact .inr (.inr (.inl q))
  ·exact .inr (.inr (.inr (hhold k q)))
 ·change (p.cs.set i c')[j]? =some d at hd'
  by_cases hij:j=i
  ·subst hij
   rw [List.getElem?_set_self hivl] at hu
   rw [List.getElem?_set_self hicl] at hd'
   obtain rfl:=zr hu
   obtain rfl:=zr hd'
   exact hv'
  ·rw [List.getElem?_set_ne (fun e=>hij e.symm)] at hu hd'
   refine (h.cont j u d hu hd').block fun R hR hl ⟨L,hL⟩=>hf.block R hl fun e=> ?_
   rcases hS R e with q|q|q|q
   ·exact Aw hL h.tree.tree (by decide) q
   ·obtain ⟨vs,hvs⟩:=hnb;exact Aw hL hvs (by decide) q
   ·omega
   ·exact hij (h.own j i u v R hu hv hR q)
 ·have hlow:∀(j:Nat) (u:Value),j≠i->V[j]? =some u->Dm u=some R->R<w.heap.size/\Dm v≠some R:=by
   intro j u hj hu hR
   have hjl:j<p.cs.length:=by rw [hi.len,<-h.tree.vlen];exact (zy.1 hu).1
   refine ⟨?_,fun e=>hj (h.own j i u v R hu hv hR e)⟩
   rcases h.cont j u _ hu (zz hjl) with ⟨q,_⟩|⟨R',cp,T,q1,q2,_⟩
   ·rw [q] at hR;cases hR
   ·rw [q1] at hR
    have:R'=R:=by simpa [Dm] using hR
    subst this
    exact q2.lt
  by_cases hj:j=i
  ·by_cases hk:k=i
   ·rw [hj,hk]
   ·subst hj
    rw [List.getElem?_set_self hivl] at hu
    obtain rfl:=zr hu
    rw [List.getElem?_set_ne (fun e=>hk e.symm)] at hu'
    obtain ⟨q1,q2⟩:=hlow k u' hk hu' h2
    rcases hnew R h1 with q|q
    ·omega
    ·exact absurd q q2
  ·rw [List.getElem?_set_ne (fun e=>hj e.symm)] at hu
   by_cases hk:k=i
   ·subst hk
    rw [List.getElem?_set_self hivl] at hu'
    obtain rfl:=zr hu'
    obtain ⟨q1,q2⟩:=hlow j u hj hu h1
    rcases hnew R h2 with q|q
    ·omega
    ·exact absurd q q2
   ·rw [List.getElem?_set_ne (fun e=>hk e.symm)] at hu'
    exact h.own j k u u' R hu hu' h1 h2
theorem LC {xs:List Ino} {i:Nat} {x:Ino} (hinc:xs.Pairwise (fun x y=>x.id<y.id)) (hx:xs[i]? =some x):BK xs x.id=i:=by
 refine Jm hx (by simp) fun j y hj hy=> ?_
 obtain ⟨hi1,hi2⟩:=zy.1 hx
 obtain ⟨hj1,hj2⟩:=zy.1 hy
 have:=List.pairwise_iff_getElem.1 hinc j i hj1 hi1 hj
 rw [hj2,hi2] at this
 have hne:y.id≠x.id:=by omega
 simpa using hne
theorem S5 {w:World} {B tb ab am:Nat} {used:Int} {p:PK} {NB MB:List Nat} {V:List Value} {s:ByteArray} {b:Nat} {name:ByteArray} (hr:Ba w B tb ab am p.li p.lb used p.xs NB MB V) (hi:Bo p) (he:(AN p.xs s).e=0) (hp:Qa p.xs NB ab s b name):
  ∃(m k:Nat) (f:ByteArray->Option Nat) (dvs:List Value),AG w b 258 dvs/\dvs[3]? =some (.map (some m))/\Ao w m k f/\k<=p.xs.length+1/\name.size<=14/\B<=m/\
   ((AN p.xs s).n≠0/\(∃(i:Nat) (x:Ino) (c:Nat),p.xs[i]? =some x/\x.id=(AN p.xs s).n/\NB[i]? =some c/\f name=some c)\/
    (AN p.xs s).n=0/\f name=none/\∃(pi:Nat) (px:Ino),p.xs[pi]? =some px/\px.dir=true/\MB[pi]? =some m/\px.id=(AN p.xs s).dir/\name=(AN p.xs s).name/\k=p.xs.length/\f=D4 p.xs NB px.id):=by
 have hne:p.xs≠[]:=by obtain ⟨x,hx,_⟩:=hi.root;intro e;rw [e] at hx;cases hx
 have hid:∀x∈p.xs,1<=x.id:=fun x hx=>(hi.ids x hx).1
 obtain ⟨x0,hx0,hx01,hx0d⟩:=hr.root hne
 have hx0l:=(zy.1 hx0).1
 obtain ⟨b0,hb0⟩:∃b0,NB[0]? =some b0:=⟨_,zz (by rw [hr.len.1];exact hx0l)⟩
 rcases hp with ⟨hnm,rfl,rfl⟩|⟨⟨a,r,hnm⟩,⟨i,x,hx,hxi,hb⟩,hxd,rfl⟩
 ·have hw:AN p.xs s=⟨0,ByteArray.empty,1,0⟩:=by unfold AN;rw [hnm]
  rw [hw]
  refine ⟨am,1,_,_,hr.above,rfl,hr.amap,by omega,by decide,hr.low.2.2.1,.inl ⟨by decide,0,x0,b0,hx0,hx01,hb0,?_⟩⟩
  show (if ByteArray.empty.data.toList=[] then NB[0]? else none)=some b0
  rw [if_pos (show ByteArray.empty.data.toList=[] from rfl),hb0]
 ·obtain ⟨hok,hn,hdir⟩:=Pn (xs:=p.xs) hnm he
  have hil:=(zy.1 hx).1
  obtain ⟨m,hmm⟩:∃m,MB[i]? =some m:=⟨_,zz (by rw [hr.len.2];exact hil)⟩
  have hdx:x.dir=true:=by rw [<-hxi,Fh hi.incr hx] at hxd;exact hxd
  obtain ⟨qn,v,mv,hnode,hkids,_⟩:=hr.node i x b m hx hb hmm
  obtain ⟨hmv,hdict⟩:=hkids hdx
  subst hmv
  refine ⟨m,p.xs.length,_,_,hnode,rfl,hdict,by omega,Lr hok,(hr.low.2.2.2.2 m (zv hmm)).1,?_⟩
  rw [hn,<-hxi]
  by_cases q:Ax p.xs x.id (AN p.xs s).name=0
  ·refine .inr ⟨q,NR hid q,i,x,hx,hdx,hmm,hxi▸rfl,rfl,rfl,rfl⟩
  ·obtain ⟨j,y,c,h1,h2,h3,h4⟩:=KY (NB:=NB) hr.len.1 q
   exact .inl ⟨q,j,y,c,h1,h2,h3,h4⟩
def Jx (w w':World):Prop:=∀(k:Nat) (t:TypeId) (vs:List Value),AG w k t vs->t≠175->t≠258->t≠5->AG w' k t vs
theorem Jx.below {w w':World} (h:Below w.heap.size w w'):Jx w w':=fun k t vs hk _ _ _=>hk.below h hk.lt
theorem Xx (p:PK) (B tb ab am i b q o c1:Nat) (a:Option Addr) (NB MB:List Nat) (V:List Value) (x:Ino) (L c:List Int) (w:World) (hr:BY w B tb ab am p NB MB V) (hi:Bo p) (hx:p.xs[i]? =some x) (hd:x.dir=false) (hb:NB[i]? =some b) (hc:p.cs[i]? =some c) (hL:L.length<=1000000) (hu:AU p.cs<=1000000) (hlb:0<=p.lb/\p.lb<=1000000) (hli:(p.xs.length:Int)<=p.li/\p.li<=1000000)
  (ha:0<L.length->a=some (pK q o)/\q<B) (hv:BC w q o L) (hB:B<=w.heap.size):
  Calls Tryz.prog 68 #[pq tb 0,pq b 0,.int .i64 0,.slice a L.length c1] w fun e w'=>(Below B w w'/\Jx w w')/\
   ((0<L.length/\p.lb<(AU p.cs:Int)-(c.length:Int)+((max L.length c.length:Nat):Int))/\e=Br 12\/
    ¬(0<L.length/\p.lb<(AU p.cs:Int)-(c.length:Int)+((max L.length c.length:Nat):Int))/\e= .returned .nilIface/\∃V',BY w' B tb ab am (if L.length=0 then p else {p with cs:=p.cs.set i (Ee c L)}) NB MB V'):=by
 by_cases h0:L.length=0
 ·rw [h0]
  refine (Qj tb b 0 a c1 w).mono fun e w' h=> ?_
  obtain ⟨rfl,rfl⟩:=h
  refine ⟨⟨zw _ _,Jx.below (zw _ _)⟩,.inr ⟨by omega,rfl,V,?_⟩⟩
  rw [if_pos rfl];exact hr
 ·have hpos:0<L.length:=by omega
  obtain ⟨rfl,hqB⟩:=ha hpos
  have hil:=(zy.1 hx).1
  obtain ⟨m,hm⟩:∃m,MB[i]? =some m:=⟨_,zz (by rw [hr.tree.len.2];exact hil)⟩
  obtain ⟨qn,v,mv,hn,_,hvi,hmn⟩:=hr.tree.node i x b m hx hb hm
  rw [hd] at hn
  have hcv:=hr.cont i v c hvi hc
  have hcu:=JG hc
  have hlow:=hr.tree.low
  have hbB:B<=b:=hlow.2.2.2.1 b (zv hb)
  obtain ⟨va,vc,hvs⟩:=hcv.len
  by_cases hf:p.lb<(AU p.cs:Int)-(c.length:Int)+((max L.length c.length:Nat):Int)
  ·refine (Qk tb ab b p.xs.length p.li (AU p.cs) p.lb c.length vc L.length c1 va (some (pK q o)) w hr.tree.tree (by rw [<-hvs];exact hn.cell rfl) ⟨by omega,hli.1⟩ hli.2 hpos (by omega) hL ⟨by omega,by omega,hlb⟩ (by omega)).mono fun e w' h=> ?_
   exact ⟨⟨h.2.mono hB,Jx.below h.2⟩,.inl ⟨⟨hpos,hf⟩,h.1⟩⟩
  ·rcases hcv with ⟨rfl,rfl⟩|⟨R,cp,T,rfl,hR,hcp,hcm,hRB⟩
   ·refine (Sx tb ab b q o p.xs.length p.li (AU p.cs) p.lb L.length c1 mv L w rfl (by omega) (by omega) (by omega) hv hr.tree.tree hn ⟨by omega,hli.1⟩ hli.2 hpos hL ⟨by omega,by omega,hlb⟩ (by simp at hf;omega)).mono fun e w' h=> ?_
    obtain ⟨rfl,h1,h2,R,cp,h3,h4,h5,h6,h7⟩:=h
    have ho:Ee ([]:List Int) L=L:=by unfold Ee;simp
    refine ⟨⟨h2.below (by omega) hbB hB,fun k t vs hk t1 t2 t3=>Ab hk (h2.block k hk.lt (Aw hk hr.tree.tree t1) (Aw hk hn t2))⟩,.inr ⟨fun q=>hf q.2,rfl,V.set i (.slice (some (pK R 0)) L.length cp),?_⟩⟩
    rw [if_neg h0,ho]
    refine hr.wrote hi hx hd hb hc hvi (S:=[tb,b]) ?_ h6 (hmn hd) (Bk.ofK h2) (fun k hk=> ?_) (.inr ⟨R,cp,List.replicate (cp-L.length) 0,rfl,h7,by simp;omega,h5,by omega⟩) (fun R' hR'=> ?_)
    ·rw [show (AU p.cs:Int)-(([]:List Int).length:Int)+(L.length:Int)=(AU p.cs:Int)+(L.length:Int) by simp];exact h1
    ·simp at hk;rcases hk with q|q
     ·exact .inl q
     ·exact .inr (.inl q)
    ·have:R=R':=by simpa [Dm] using hR'
     subst this;exact .inl h3
   ·refine (Sz tb ab b q o R p.xs.length p.li (AU p.cs) p.lb L.length c1 cp mv L c T w rfl (by omega) (by omega) (by omega) (by omega) hv hr.tree.tree hn hR hcp hcm (by omega) ⟨by omega,hli.1⟩ hli.2 hpos hL ⟨by omega,by omega,hlb⟩ (by omega)).mono fun e w' h=> ?_
    obtain ⟨rfl,h1,h2,R',cp',T',h3,h4,h5,h6,h7⟩:=h
    refine ⟨⟨h2.below (fun k hk=>by simp at hk;rcases hk with rfl|rfl|rfl<;>omega) hB,fun k t vs hk t1 t2 t3=>Ab hk (h2.block k hk.lt (by simp [Aw hk hr.tree.tree t1,Aw hk hn t2,Aw hk hR t3]))⟩,.inr ⟨fun q=>hf q.2,rfl,V.set i (.slice (some (pK R' 0)) (Ee c L).length cp'),?_⟩⟩
    rw [if_neg h0]
    refine hr.wrote hi hx hd hb hc hvi (S:=[tb,b,R]) ?_ h6 (hmn hd) h2 (fun k hk=> ?_) (.inr ⟨R',cp',T',rfl,h7,h4,h5,by rcases h3 with q|q<;>omega⟩) (fun R'' hR''=> ?_)
    ·rw [G2 (M:=max L.length c.length) rfl,show (AU p.cs:Int)-(c.length:Int)+((max L.length c.length:Nat):Int)=(AU p.cs:Int)+((L.length-c.length:Nat):Int) by omega];exact h1
    ·simp at hk;rcases hk with q|q|q
     ·exact .inl q
     ·exact .inr (.inl q)
     ·exact .inr (.inr (.inr (by rw [q];rfl)))
    ·have:R'=R'':=by simpa [Dm] using hR''
     subst this
     rcases h3 with q|q
     ·exact .inr (by rw [q];rfl)
     ·exact .inl q
theorem Jy {p:PK} (hi:Bo p) {s:ByteArray} (h0:(AN p.xs s).e=0) {i:Nat} {x:Ino} (hn:(AN p.xs s).n≠0) (hx:p.xs[i]? =some x) (hxi:x.id=(AN p.xs s).n):p.opened s=(p,x.id)/\CI p.xs x.id=x.dir/\(BK p.xs x.id).toNat=i/\p.cs[i]? =some (p.old x.id):=by
 have hp:=LC hi.incr hx
 have hil:=(zy.1 hx).1
 refine ⟨by unfold PK.opened;rw [if_neg hn,hxi],Fh hi.incr hx,by rw [hp];rfl,?_⟩
 unfold PK.old
 rw [hp,zl,show ((i:Int)).toNat=i from rfl,zz (by rw [hi.len];exact hil)]
 rfl
theorem Na {p:PK} (hi:Bo p) {s:ByteArray} (h0:(AN p.xs s).e=0) (hn:(AN p.xs s).n=0):p.opened s=(p.add (AN p.xs s).dir (AN p.xs s).name false,p.last+1)/\CI (p.add (AN p.xs s).dir (AN p.xs s).name false).xs (p.last+1)=false/\(BK (p.add (AN p.xs s).dir (AN p.xs s).name false).xs (p.last+1)).toNat=p.xs.length/\(p.add (AN p.xs s).dir (AN p.xs s).name false).old (p.last+1)=[]:=by
 have he:p.opened s=(p.add (AN p.xs s).dir (AN p.xs s).name false,p.last+1):=by unfold PK.opened;rw [if_pos hn]
 have hio:=hi.opened s h0
 rw [he] at hio
 have hx:(p.add (AN p.xs s).dir (AN p.xs s).name false).xs[p.xs.length]? =some (Bh (p.last+1) (AN p.xs s).dir (AN p.xs s).name false):=by
  show (p.xs++[Bh (p.last+1) (AN p.xs s).dir (AN p.xs s).name false])[p.xs.length]? =_
  rw [zo (zx _)];simp
 have hp:=LC hio.incr hx
 have hp':BK (p.add (AN p.xs s).dir (AN p.xs s).name false).xs (p.last+1)=(p.xs.length:Int):=hp
 refine ⟨he,Fh hio.incr hx,by rw [hp'];rfl,?_⟩
 unfold PK.old
 rw [hp',show ((p.xs.length:Int)).toNat=p.xs.length from rfl]
 show (p.cs++[[]]).getD p.xs.length []=[]
 rw [zl,<-hi.len,zo (zx _)]
 simp
def Iw (p:PK) (s:ByteArray) (B tb ab am:Nat) (w:World) (b:Nat):Prop:=∃(NB MB:List Nat) (V:List Value) (i:Nat) (x:Ino),BY w B tb ab am (p.opened s).1 NB MB V/\Bo (p.opened s).1/\(p.opened s).1.xs[i]? =some x/\x.dir=false/\NB[i]? =some b/\(p.opened s).1.cs[i]? =some ((p.opened s).1.old (p.opened s).2)/\(BK (p.opened s).1.xs (p.opened s).2).toNat=i/\AU (p.opened s).1.cs=AU p.cs/\(p.opened s).1.lb=p.lb
theorem Zw {p:PK} {s:ByteArray} {B tb ab am:Nat} {w:World} {NB MB:List Nat} {V:List Value} (hr:BY w B tb ab am p NB MB V) (hi:Bo p) (h0:(AN p.xs s).e=0) {i b:Nat} {x:Ino} (hn:(AN p.xs s).n≠0) (hx:p.xs[i]? =some x) (hxi:x.id=(AN p.xs s).n) (hd:x.dir=false) (hb:NB[i]? =some b):Iw p s B tb ab am w b:=by
 obtain ⟨h1,h2,h3,h4⟩:=Jy hi h0 hn hx hxi
 unfold Iw
 rw [h1]
 exact ⟨NB,MB,V,i,x,hr,hi,hx,hd,hb,h4,h3,rfl,rfl⟩
theorem Zx {p:PK} {s:ByteArray} {B tb ab am:Nat} {w w':World} {NB MB:List Nat} {V:List Value} (hr:BY w B tb ab am p NB MB V) (hi:Bo p) (h0:(AN p.xs s).e=0) (hn:(AN p.xs s).n=0) {m b:Nat} {pi:Nat} {px:Ino} {name:ByteArray} (hpx:p.xs[pi]? =some px) (hpd:px.dir=true) (hpm:MB[pi]? =some m) (hpi:px.id=(AN p.xs s).dir) (hnm:name=(AN p.xs s).name) (hc:D4 p.xs NB px.id name=none)
  (hb:w.heap.size<=b) (hbl:b<w'.heap.size) (hnode:∃q,AG w' b 258 [.string q,.bool false,.slice none 0 0,.map none,.int .i64 0]) (hp:Qg tb m p.xs.length ab p.xs.length p.li (AU p.cs) p.lb (D4 p.xs NB px.id) name b w w') (hB:B<=w.heap.size):Iw p s B tb ab am w' b:=by
 obtain ⟨h1,h2,h3,h4⟩:=Na hi h0 hn
 have hio:=hi.opened s h0
 unfold Iw
 rw [h1] at hio ⊢
 have hl1:=hr.tree.len.1
 have hmp:Sr w m:=by
  obtain ⟨pb,hpb⟩:∃pb,NB[pi]? =some pb:=⟨_,zz (by rw [hl1];exact (zy.1 hpx).1)⟩
  obtain ⟨qn,_,_,_,q,_⟩:=hr.tree.node pi px pb m hpx hpb hpm
  exact (q hpd).2.isMap
 have ht:Ba w' B tb ab am p.li p.lb (AU p.cs) (p.xs++[Bh (p.last+1) px.id name false]) (NB++[b]) (MB++[b]) (V++[.slice none 0 0]):=by
  refine hr.tree.added hpx hpd hpm hi.incr hc hp.1 hp.2.1 hnode (fun q=>by cases q) (fun _=>rfl) hb hb hbl hp.2.2 (fun z hz=> ?_) ?_ hB
  ·have:=(hi.down z hz).2;have:=(hi.ids z hz).2;omega
  ·have:=(hi.ids px (zv hpx)).2;omega
 rw [hpi,hnm] at ht
 have hg:=hr.grew (q:=p.add (AN p.xs s).dir (AN p.xs s).name false) hi rfl hp.2.2 hmp ht
 refine ⟨NB++[b],MB++[b],V++[.slice none 0 0],p.xs.length,Bh (p.last+1) (AN p.xs s).dir (AN p.xs s).name false,hg,hio,?_,rfl,?_,?_,h3,FK _,rfl⟩
 ·show (p.xs++[Bh (p.last+1) (AN p.xs s).dir (AN p.xs s).name false])[p.xs.length]? =_
  rw [zo (zx _)];simp
 ·rw [<-hl1,zo (zx _)];simp
 ·rw [h4]
  show (p.cs++[[]])[p.xs.length]? =some []
  rw [<-hi.len,zo (zx _)];simp
end Go.Proofs.YtdchgbmliojoiaaGreatDoor
