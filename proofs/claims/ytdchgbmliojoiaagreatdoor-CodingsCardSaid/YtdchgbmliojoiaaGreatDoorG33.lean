import Derived.Test.YtdchgbmliojoiaaGreatDoorG29
import Derived.Test.YtdchgbmliojoiaaGreatDoorG32
set_option maxRecDepth 100000
set_option maxHeartbeats 2000000
set_option linter.unusedVariables false
set_option linter.unusedSimpArgs false
namespace Go.Proofs.YtdchgbmliojoiaaGreatDoor
section
open Go Go.RowKit Go.Maps Go.Sort Go.Shelf
theorem aG (m:Nat):AnyZI.SortsIn Tryz.prog Lz Fence.wide m:=
 ⟨fun blk off cap ss W hH hblk hsz=>callsIn_wide.2 (AnyM.slices_Sort_int TP blk off cap ss W hH hblk hsz),
  fun p cap W=>callsIn_wide.2 (AnyM.slices_Sort_int_none TP p cap W)⟩
theorem YC (pm:Nat) (w:World):Calls Tryz.prog 199 #[.map (some pm)] w fun e w'=>e= .returned (.func (.func 277) #[] #[pq w.heap.size 0])/\w'=w.alloc (.cells #[.map (some pm)] 106):=
 callsIn_wide.1 (AnyZI.keys_in eG Fence.wide 5 trivial rfl (some pm) w)
theorem TR {H:Type} (b nn:Nat) (D0:DataW H) (R:Value->Option (DataW H×List MemPlace)) (w:World) (hown:w.ownsMap Tryz.prog 3 R b nn D0) (hmax:Maps.size D0<=maxLen) (hbytes:Maps.size D0*8<=140737488355328):
  Calls Tryz.prog 198 #[.func (.func 277) #[] #[pq w.heap.size 0]] (w.alloc (.cells #[.map (some b)] 106)) fun e w'=>∃(v:Value) (ss:List Int),e= .returned v/\ss.Perm (intKeys D0)/\
   w'.ownsRow w.heap.size 3 1 v ss.length ((ss.mergeSort (fun x y=>decide (x<=y))).map encZ)/\Below w.heap.size w w':=by
 have hbl:=hown.lt
 have hseq:SeqGives Fence.wide 2 Tryz.prog 277 #[pq w.heap.size 0] encZ (fun ss=>ss.Perm (intKeys D0)) (Maps.size D0) (w.alloc (.cells #[.map (some b)] 106)):=
  AnyZI.keys_gives (ρ:=Pq) {eG with} Fence.wide _ trivial rfl (by omega) w.heap.size b nn D0 _ (by simp) (by simp) (by
   obtain ⟨es,clock,hb,Ft,hs,hD⟩:=hown
   exact ⟨es,clock,(Below.heap_alloc _ _ b hbl).trans hb,Ft,hs,hD⟩)
 have cS:=AnyZI.sorted_in cw Fence.wide 5 trivial trivial trivial trivial rfl (by omega) (aG _) (enters_of Tryz.func276 (by kernel_rfl) rfl) 277 #[pq w.heap.size 0] trivial (enters_of Tryz.func277 (by kernel_rfl) rfl) _ _ hmax hbytes _ hseq
 refine (callsIn_wide.1 cS).mono ?_
 rintro e w' ⟨v,ss,rfl,hS,hrow,_,hb⟩
 exact ⟨v,ss,rfl,hS,ownsRow_base_a hrow (by simp),((zw _ w).alloc (zx _) _).trans (hb.mono (by simp))⟩
theorem Q0 {w:World} {pm pb:Nat} (h:A6 w pm pb) (ty:TypeId):(Builtin.len_ #[106] ty #[.map (some pm)]).run Tryz.prog w= .ok (.int .i64 1) w:=World.ownsMap.len h Tryz.underlying106 ty
theorem aH (w:World):(zeroValue 104).run Tryz.prog w= .ok (.pointer none) w:=by kernel_rfl
theorem Nl {w:World} {pm pb:Nat} (h:A6 w pm pb):(Instr.lookup 106 (.map (some pm)) (.int .i64 1) false).run Tryz.prog w= .ok (pq pb 0) w:=by
 obtain ⟨v,ps,hrun,hv⟩:=World.ownsMap.lookup h G7 Tryz.underlying106 (aH w) (show CQ (.pointer none)=some (.nil,[]) from rfl) (Go.Maps.keyOf_int_mk Tryz.underlying3 (a:=1) (by decide))
 have hv:CQ v=some (Em (some pb),ps):=hv
 rw [Ln hv] at hrun
 exact hrun
theorem L0:(Tryz.prog.info? 104).map (fun i=>(i.zero,i.size,i.bytes))=some (some (.pointer none),1,8):=by kernel_rfl
theorem cx (w:World):∃cur:Array Value,cur.size=1*1/\(Instr.makeSlice 107 (.int .i64 0) (.int .i64 1)).run Tryz.prog w= .ok (.slice (some (pK w.heap.size 0)) 0 1) (w.alloc (.cells cur 104)):=by
 obtain ⟨i,hi,hz,hs,hb⟩:=info_parts L0
 have hr:=run_make (P:=Tryz.prog) w 107 104 i _ Tryz.underlying107 hi hz .i64 .i64 0 1 (by omega) (by omega) (by rw [hb];omega) (by omega)
 rw [hs] at hr
 exact ⟨_,by simp [madeCells],hr⟩
theorem aI {ss:List Int} (h:ss.Perm [1]):ss=[1]:=List.perm_singleton.1 h
theorem WY (kb pm pb:Nat) (w:World) (hk:w.cell? (pK kb 9)=some (.map (some pm))) (hkl:kb<w.heap.size) (hm:A6 w pm pb):
  Calls Tryz.prog 160 #[pq kb 0] w fun e w'=>∃v,e= .returned v/\w'.ownsRow w.heap.size 104 1 v 1 [pq pb 0]/\Below w.heap.size w w':=by
 obtain ⟨cur,hcur,hmk⟩:=cx w
 have hln:=Q0 hm
 obtain ⟨W1,hW1⟩:∃W1,W1=w.alloc (.cells cur 104):=⟨_,rfl⟩
 have hb1:Below w.heap.size w W1:=by rw [hW1];exact (zw _ _).alloc (zx _) _
 have ho1:W1.ownsRow w.heap.size 104 1 (.slice (some (pK w.heap.size 0)) 0 1) 0 []:=by rw [hW1];exact World.ownsRow_made w cur 1 (zx _) (by unfold maxLen;omega) hcur
 have k1:W1.cell? (pK kb 9)=some (.map (some pm)):=by rw [hb1.cell (p:=(pK kb 9)) hkl];exact hk
 have hm1:A6 W1 pm pb:=hm.kept (A7 hb1) (by simp)
 have HKY:=AC (YC pm W1)
 have HST:=AC (TR pm 1 (Iu pb) CQ W1 hm1 (by show 1<=maxLen;unfold maxLen;omega) (by show 1*8<=_;omega))
 have HM:=AC hm
 have HB1:=AC hb1
 have HO1:=AC ho1
 have HW1:=AC hW1
 obtain ⟨ip,hip,hpz0,hpz1,hpz2⟩:=info_parts L0
 have HIP:=AC (And.intro hip (And.intro hpz0 (And.intro hpz1 hpz2)))
 clear hm hb1 ho1 hW1 hcur hip hpz0 hpz1 hpz2 hm1
 go_enter Tryz.func160,Tryz.ntmps160
 go_upto_region 2 with fail
 rw [<-AB HW1]
 clear hmk hln
 go_wp2_with fail
 refine (AB HKY).mono ?_
 rintro e w2 ⟨rfl,rfl⟩
 clear HKY k1
 go_wp2_with fail
 refine (AB HST).mono ?_
 rintro e w3 ⟨v,ss,rfl,hss,hrow,hb3⟩
 obtain rfl:=aI (show ss.Perm [1] from hss)
 obtain ⟨gs,cs,rfl,hgs,hgl⟩:=hrow.form (show 0<[(1:Int)].length by decide)
 have hrow:w3.ownsRow W1.heap.size 3 1 (.slice (some (pK gs 0)) 1 cs) 1 [.int .i64 1]:=by
  have h:=hrow
  rw [List.mergeSort_singleton] at h
  exact h
 have s0:w3.cell? (pK gs 0)=some (.int .i64 1):=hrow.cellAt 0 (by omega)
 have hb3w:=(AB HB1).trans (hb3.mono (AB HB1).size)
 have ho3:=BO (AB HO1) (AC hb3)
 have HB3:=AC hb3w
 have HO3:=AC ho3
 have hm3:A6 w3 pm pb:=(AB HM).kept (A7 hb3w) (by simp)
 have hlk:=Nl hm3
 have k3:w3.cell? (pK kb 9)=some (.map (some pm)):=by rw [hb3w.cell (p:=(pK kb 9)) hkl];exact hk
 have HL:=AC (show w.heap.size<=w3.heap.size from hb3w.size)
 clear hss hrow hgs hgl hb3 hb3w ho3 hm3 HST hk
 go_wp2
 go_loopw [3,19] (fun v i wr=>∃k:Nat,k<=1/\i= .int .i64 k/\(k=0->v= .slice (some (pK w.heap.size 0)) 0 1/\wr=w3)/\(k=1->Hid (wr.ownsRow w.heap.size 104 1 v 1 [pq pb 0]/\Below w.heap.size w wr))) (fun _ i _=>1-(intOf i).toNat)
 case atStart=>exact ⟨0,by omega,rfl,fun _=>⟨rfl,rfl⟩,fun h=>by omega⟩
 case round=>
  obtain ⟨k,hk,rfl,h0,h1⟩:=hrel
  have h2:k=0\/k=1:=by omega
  rcases h2 with rfl|rfl
  ·obtain ⟨rfl,rfl⟩:=h0 rfl
   have hb4:Below wr.heap.size wr (wr.alloc (Obj.cells #[pq pb 0] 104)):=(zw _ _).alloc (zx _) _
   have HA:=AC (BO (AB HO3) (AC hb4))
   have HB4:=AC ((AB HB3).trans (hb4.mono (AB HB3).size))
   have hl:=AB HL
   clear h0 h1 hb4
   go_wp2_with (at_builtin;refine wpList_append_lies _ (by rfl) _ _ 107 (by rfl) w.heap.size 104 ip _ 1 8 Tryz.underlying107 (AB HIP).1 (AB HIP).2.1 (AB HIP).2.2.1 (AB HIP).2.2.2 rfl (by decide) _ 0 [] (by rfl) (AB HA) (pK wr.heap.size 0) 1 1 [pq pb 0] (by rfl) (by rfl) (WV wr _ _) (by intro u hu;simp only [List.mem_cons,List.not_mem_nil,or_false] at hu;subst hu;rfl) (by omega) (by unfold maxLen;omega) (by omega) (by simp;omega) (wr.heap.size+1) (by simp) ?_;intro g8 c8 w8 hown8 hgrow8 hat8 hlt8)
   refine ⟨⟨1,by omega,by simp,fun h=>by omega,fun _=>AC ⟨hown8,(AB HB4).trans ⟨hgrow8.os,hgrow8.tape,hgrow8.output,hgrow8.size,fun q hq=>hgrow8.block q (by simp;omega) (fun e=> ?_)⟩⟩⟩,by simp [intOf]⟩
   have:=(AB HA).lt q e.symm
   omega
  ·have HF:=h1 rfl
   clear h0 h1
   go_wp2
   go_ret
   exact ⟨_,rfl,(AB HF).1,(AB HF).2⟩
end
section
open Go Go.RowKit
def aZ (W:World) (HI:Nat) (op:Int) (a b:Nat) (im:Int):Prop:=W.cell? (pK HI 0)=some (.int .u8 op)/\W.cell? (pK HI 1)=some (.int .i64 (a:Int))/\W.cell? (pK HI 2)=some (.int .i64 (b:Int))/\W.cell? (pK HI 3)=some (.int .i16 im)
theorem VM {W:World} {HI:Nat} {op:Int} {a b:Nat} {im:Int} (h:AG W HI 350 [.int .u8 op,.int .i64 (a:Int),.int .i64 (b:Int),.int .i16 im]):aZ W HI op a b im:=⟨h.cell (j:=0) rfl,h.cell (j:=1) rfl,h.cell (j:=2) rfl,h.cell (j:=3) rfl⟩
theorem TY (HI:Nat) (w':World):(Instr.fieldAt 350 (pq HI 0) 0).run Tryz.prog w'= .ok (pq HI 0) w':=by go_simp
theorem eH (HI:Nat) (op:Int) (a b:Nat) (im:Int) (w':World) (c:aZ w' HI op a b im):(Instr.loadAt 348 (pq HI 0)).run Tryz.prog w'= .ok (.int .u8 op) w':=by
 obtain ⟨c0, -⟩:=c
 go_simp
theorem Wg (HI:Nat) (op:Int) (a b:Nat) (im:Int) (w':World) (c:aZ w' HI op a b im):(Instr.loadAt 350 (pq HI 0)).run Tryz.prog w'= .ok (.agg #[.int .u8 op,.int .i64 (a:Int),.int .i64 (b:Int),.int .i16 im]) w':=by
 obtain ⟨c0,c1,c2,c3⟩:=c
 go_simp
theorem Nw:∀args w,(callFunc 189 args).run Tryz.prog w= .ok (.enter 189 args) w:=enters_of Tryz.func189 (by kernel_rfl) rfl
theorem ae (pb co:Nat) (w':World):(Instr.fieldAt 190 (pq pb co) 0).run Tryz.prog w'= .ok (pq pb co) w':=by go_simp
theorem YM (w':World) (i:Int) (h0:0<=i) (h1:i<25):(Instr.index 354 (.agg CD.toArray) (.int .u8 i)).run Tryz.prog w'= .ok (CD.getD i.toNat .nilFunc) w':=by
 have hl:CD.length=25:=rfl
 simp [Instr.index,asIntOf,run_underlying Tryz.underlying354,h0,h1,go_sem]
 rw [zz (by omega)]
 rfl
theorem Kl {ops:Array Oper} {S:World->Prop} {o:Oper} {A:Act} (hg:o.guard=none) (x y:Operand) (ho:o.op= .index 354 x y) (i:Int) (hx:A.eval x= .agg CD.toArray) (hy:A.eval y= .int .u8 i) (v:Value) (hv:0<=i/\i<=24/\CD.getD i.toNat .nilFunc=v):YieldsIf Tryz.prog ops S o v A:=
 Bj hg fun w' hS=>by
  have h:=YM w' i hv.1 (by omega)
  rw [hv.2.2] at h
  simp only [execOp,ho,hx,hy,Sem.run_bind,h,yk,Sem.run_pure]
theorem VN {P:Program} {ops:Array Oper} {o:Oper} {a:Act} {w:World} {K:Act->World->Prop} {Q:Exit->Act->World->Prop} {E:Prop} (hgd:o.guard=none) (f:Nat) (x:Operand) (args:Array Operand) (ts:Array TypeId)
  (ho:o.op= .call {callee:= .value x,args:=args,argTypes:=ts}) (hx:a.eval x= .func (.func f) #[] #[]) (vs:Array Value) (hv:args.map a.eval=vs)
  (he:∀args w,(callFunc f args).run P w= .ok (.enter f args) w) (post:Ending->World->Prop) (hp:∀e w',post e w'->∃r,e= .returned r) (hc:Calls P f vs w post) (d:Option Tmp) (hd:o.dst=d)
  (h:∀r w',post (.returned r) w'->K (a.put d r) w'):
  if Region.wanted o (yielded ops a.tmps)=true then Oper.wp P o a w K Q else E:=by
 have hw:Region.wanted o (yielded ops a.tmps)=true:=by simp [Region.wanted,hgd]
 rw [if_pos hw]
 subst hd
 unfold Oper.wp
 simp only [execOp,ho,resolve,hx,hv]
 simp [invoke,Result.andThen,go_sem,he]
 refine hc.mono ?_
 intro e w' hpe
 obtain ⟨r,rfl⟩:=hp e w' hpe
 have:=h r w' hpe
 simpa [go_sem] using this
theorem TZ {P:Program} {ops:Array Oper} {o:Oper} {a:Act} {w:World} {K:Act->World->Prop} {Q:Exit->Act->World->Prop} {E:Prop} (hgd:o.guard=none) (f:Nat) (x:Operand) (args:Array Operand) (ts:Array TypeId)
  (ho:o.op= .call {callee:= .value x,args:=args,argTypes:=ts}) (hx:a.eval x= .func (.func f) #[] #[]) (vs:Array Value) (hv:args.map a.eval=vs)
  (he:∀args w,(callFunc f args).run P w= .ok (.enter f args) w) (c:List PanicEntry) (post:Ending->World->Prop) (hp:∀e w',post e w'->e= .panicked c) (hc:Calls P f vs w post)
  (h:∀w',post (.panicked c) w'->Q (.panic c) a w'):
  if Region.wanted o (yielded ops a.tmps)=true then Oper.wp P o a w K Q else E:=by
 have hw:Region.wanted o (yielded ops a.tmps)=true:=by simp [Region.wanted,hgd]
 rw [if_pos hw]
 unfold Oper.wp
 simp only [execOp,ho,resolve,hx,hv]
 simp [invoke,Result.andThen,go_sem,he]
 refine hc.mono ?_
 intro e w' hpe
 obtain rfl:=hp e w' hpe
 have:=h w' hpe
 simpa [go_sem] using this
theorem Ta {P:Program} {md:Region.Mode} {ops:Array Oper} {Q:Exit->Act->World->Prop} {S:World->Prop} {fuel:Nat} {listed:Array Bool} {a:Act} {w:World} {i:Nat} {o:Oper} (hi:ops[i]? =some o) (hgd:o.guard=none) (f:Nat) (x:Operand) (args:Array Operand) (ts:Array TypeId)
  (ho:o.op= .call {callee:= .value x,args:=args,argTypes:=ts}) (hx:a.eval x= .func (.func f) #[] #[]) (vs:Array Value) (hv:args.map a.eval=vs)
  (he:∀args w,(callFunc f args).run P w= .ok (.enter f args) w) (post:Ending->World->Prop) (hp:∀e w',post e w'->∃r,e= .returned r) (hc:Calls P f vs w post) (d:Option Tmp) (hd:o.dst=d)
  (h:∀r w',post (.returned r) w'->S w'/\wpAnyH P md ops Q S fuel (listed.setIfInBounds i true) (a.put d r) w'):AllReadyH P md ops Q S fuel listed a w [i]:=
 AllReadyH.cons hi (fun K hK=>VN hgd f x args ts ho hx vs hv he post hp hc d hd (fun r w' hr=>hK.out _ _ (h r w' hr).1 (fun _=>(h r w' hr).2))) AllReadyH.nil
theorem Q9 {P:Program} {md:Region.Mode} {ops:Array Oper} {Q:Exit->Act->World->Prop} {S:World->Prop} {fuel:Nat} {listed:Array Bool} {a:Act} {w:World} {i:Nat} {o:Oper} (hi:ops[i]? =some o) (hgd:o.guard=none) (f:Nat) (x:Operand) (args:Array Operand) (ts:Array TypeId)
  (ho:o.op= .call {callee:= .value x,args:=args,argTypes:=ts}) (hx:a.eval x= .func (.func f) #[] #[]) (vs:Array Value) (hv:args.map a.eval=vs)
  (he:∀args w,(callFunc f args).run P w= .ok (.enter f args) w) (c:List PanicEntry) (post:Ending->World->Prop) (hp:∀e w',post e w'->e= .panicked c) (hc:Calls P f vs w post)
  (h:∀w',post (.panicked c) w'->Q (.panic c) a w'):AllReadyH P md ops Q S fuel listed a w [i]:=
 AllReadyH.cons hi (fun K hK=>TZ hgd f x args ts ho hx vs hv he c post hp hc h) AllReadyH.nil
theorem Tb (pb co:Nat) (op:Int) (a b:Nat) (im:Int) (fn:Nat) (w:World) (hf:∀W,Below w.heap.size w W->Calls Tryz.prog 188 #[pq pb co] W fun e w'=>e= .returned (.agg #[.int .u8 op,.int .i64 (a:Int),.int .i64 (b:Int),.int .i16 im])/\Below W.heap.size W w') (ht:0<=op/\op<=24/\CD.getD op.toNat .nilFunc= .func (.func fn) #[] #[]) (hent:∀args w,(callFunc fn args).run Tryz.prog w= .ok (.enter fn args) w) (s:Int) (hw:∀W,Below w.heap.size w W->Calls Tryz.prog fn #[pq pb co,.agg #[.int .u8 op,.int .i64 (a:Int),.int .i64 (b:Int),.int .i16 im]] W fun e w'=>e= .panicked (DB s)/\Below W.heap.size W w'):
  Calls Tryz.prog 154 #[pq pb co] w fun e w'=>e= .returned (.tuple #[.bool false,.int .i64 s])/\Below w.heap.size w w':=by
 have hmf:∀(fn:Fn) (first cap:Array Value) (w:World),(Instr.makeFunc fn first cap).run Tryz.prog w= .ok (.func fn first cap) w:=fun _ _ _ _=>rfl
 obtain ⟨W1,hW1⟩:∃W1,W1=w.alloc (Obj.cells #[.int .i64 0] 3):=⟨_,rfl⟩
 have hb1:Below w.heap.size w W1:=by rw [hW1];exact (zw _ _).alloc (zx _) _
 have hr1:AG W1 w.heap.size 3 [.int .i64 0]:=by rw [hW1];exact AG.new w 3 _
 have HF:=AC (hf W1 hb1)
 have HB1:=AC hb1
 have HR1:=AC hr1
 have HW1:=AC hW1
 have HWK:=AC hw
 have HT:=AC ht
 clear hf hb1 hr1 hW1 hw ht
 go_enter_defers Tryz.func154,Tryz.ntmps154
 go_wp2_with fail
 rw [<-AB HW1]
 refine (AB HF).mono ?_
 rintro e w2 ⟨rfl,hb2⟩
 have hr2:=(AB HR1).below hb2 (AB HR1).lt
 have hb2:=(AB HB1).trans (hb2.mono (AB HB1).size)
 obtain ⟨W3,hW3⟩:∃W3,W3=w2.alloc (Obj.cells #[.int .u8 op,.int .i64 (a:Int),.int .i64 (b:Int),.int .i16 im] 350):=⟨_,rfl⟩
 have hk3:Below w2.heap.size w2 W3.drew:=by rw [hW3];exact ((zw _ _).alloc (zx _) _).drew
 have hb3:Below w.heap.size w W3.drew:=hb2.trans (hk3.mono hb2.size)
 have hr3:=hr2.below hk3 hr2.lt
 have hi3:AG W3.drew w2.heap.size 350 [.int .u8 op,.int .i64 (a:Int),.int .i64 (b:Int),.int .i16 im]:=by
  have hi0:=AG.new w2 350 [.int .u8 op,.int .i64 (a:Int),.int .i64 (b:Int),.int .i16 im]
  rw [hW3]
  exact hi0.below (zw _ _).drew hi0.lt
 have HL2:=AC (show w.heap.size<w2.heap.size from hr2.lt)
 obtain ⟨HI,hHI⟩:∃HI,HI=w2.heap.size:=⟨_,rfl⟩
 have HHI:=AC hHI.symm
 rw [<-hHI] at hi3
 have HBX:=AC hb3
 have HST:=AC hr3
 have HIN:=AC hi3
 have HW3:=AC hW3
 clear hr2 hb2 hk3 hb3 hr3 hi3 hW3 hHI HF HR1
 go_upto_region 3 with fail
 rw [<-AB HW3,AB HHI]
 clear HHI HW3 HW1
 refine BA ?_
 intro Ac hA
 have e0:Ac.eval (.tmp 0)= pq pb co:=by rw [hA];rfl
 have e2:Ac.eval (.tmp 2)= .bool false:=by rw [hA];rfl
 have e3:Ac.eval (.tmp 3)= pq w.heap.size 0:=by rw [hA];rfl
 have e4:Ac.eval (.tmp 4)= pq HI 0:=by rw [hA];rfl
 have esz:Ac.tmps.size=21:=by rw [hA];rfl
 have edf:Ac.defers=[{target:= .fn (.func 187) #[pq w.heap.size 0],args:=#[]}]:=by rw [hA]
 have HAC:=AC hA
 clear hA
 refine wp_region_held_drew (S:=fun W=>aZ W HI op a b im) (by kernel_rfl) (VM (AB HIN)) (fun hS=> ?_)
 refine GJ (i:=0) (some 8) rfl rfl (by kernel_rfl) (by kernel_rfl) (by kernel_rfl) (fun c a w h=>Kk (by decide) (by decide) h) (AK rfl _ rfl (pq pb co) (by simp [AF,AE,esz,e0,e4,AI])) hS ?_
 refine GJ (i:=2) (some 10) rfl rfl (by kernel_rfl) (by kernel_rfl) (by kernel_rfl) (fun c a w h=>Kk (by decide) (by decide) h) (AO rfl _ _ _ rfl (pq HI 0) (by simp [AF,AE,esz,e0,e4,AI]) (pq HI 0) (TY HI)) hS ?_
 refine GJ (i:=3) (some 11) rfl rfl (by kernel_rfl) (by kernel_rfl) (by kernel_rfl) (fun c a w h=>Kk (by decide) (by decide) h) (AQ rfl _ _ rfl (pK HI 0) (by simp [AF,AE,esz,e0,e4,AI]) (.int .u8 op) (eH HI op a b im)) hS ?_
 refine GJ (i:=5) (some 13) rfl rfl (by kernel_rfl) (by kernel_rfl) (by kernel_rfl) (fun c a w h=>Kk (by decide) (by decide) h) (AK rfl _ rfl (pq pb co) (by simp [AF,AE,esz,e0,e4,AI])) hS ?_
 refine GJ (i:=6) (some 14) rfl rfl (by kernel_rfl) (by kernel_rfl) (by kernel_rfl) (fun c a w h=>Kk (by decide) (by decide) h) (AQ rfl _ _ rfl (pK HI 0) (by simp [AF,AE,esz,e0,e4,AI]) (.agg #[.int .u8 op,.int .i64 (a:Int),.int .i64 (b:Int),.int .i16 im]) (Wg HI op a b im)) hS ?_
 refine rdy [1] (by kernel_rfl) (AllReadyH.cons rfl (fun K hK=> ?_) AllReadyH.nil)
 refine Bt rfl 189 _ _ rfl #[] (by simp) Nw _ (fun e w' h=>⟨_,h.1⟩) (Px W3.drew) (some 9) rfl ?_
 rintro r w4 ⟨hr,hb4⟩
 obtain rfl:r= .agg CD.toArray:=by injection hr
 have hi4:=(AB HIN).below hb4 (AB HIN).lt
 have hs4:=(AB HST).below hb4 (AB HST).lt
 have hb4:=(AB HBX).trans (hb4.mono (AB HBX).size)
 refine hK.out _ _ (VM hi4) (fun hS=> ?_)
 clear hK K hr HIN HST HBX
 have HWW:=AC (AB HWK w4 hb4)
 have HBX:=AC hb4
 have HST:=AC hs4
 have HIN:=AC hi4
 clear hb4 hs4 hi4 HWK
 refine GJ (i:=4) (some 12) rfl rfl (by kernel_rfl) (by kernel_rfl) (by kernel_rfl) (fun c a w h=>Kk (by decide) (by decide) h) (Kl rfl (.tmp 9) (.tmp 11) rfl op (by simp [AF,AE,esz,e0,e4,AI]) (by simp [AF,AE,esz,e0,e4,AI]) _ (AB HT)) hS ?_
 refine rdy [7] (by kernel_rfl) (Q9 (i:=7) rfl rfl fn _ _ _ rfl (by simp [AF,AE,esz,e0,e4,AI]) #[pq pb co,.agg #[.int .u8 op,.int .i64 (a:Int),.int .i64 (b:Int),.int .i16 im]] (by simp [AF,AE,esz,e0,e4,AI]) hent (DB s) _ (fun e w' h=>h.1) (AB HWW) ?_)
 intro w5 h5
 generalize hA9:Act.put _ _ _=A9
 have k2:A9.eval (.tmp 2)= .bool false:=by rw [<-hA9];simp [AF,e2]
 have k3:A9.eval (.tmp 3)= pq w.heap.size 0:=by rw [<-hA9];simp [AF,e3]
 have kd:=edf
 rw [show Ac.defers=A9.defers from by rw [<-hA9];simp only [GP]] at kd
 have hout:=TX (R:=fun e w'=>e= .returned (.tuple #[.bool false,.int .i64 s])/\Below w.heap.size w w') s k2 k3 kd ((AB HST).below h5.2 (AB HST).lt) ⟨rfl,((AB HBX).trans (h5.2.mono (AB HBX).size)).setCell (zx _) _⟩
 exact hout
structure ez (w W w':World) (pb o:Nat) (v:Value):Prop where
 os:w'.os=W.os
 tape:w'.tape=W.tape
 output:w'.output=W.output
 size:W.heap.size<=w'.heap.size
 block:∀k,k<w.heap.size->k≠pb->w'.heap[k]? =W.heap[k]?
 here:w'.heap[pb]? =(W.setCell (pK pb o) v).heap[pb]?
theorem af {w W:World} {pb o H:Nat} {v u:Value} (hH:w.heap.size<=H) (hp:pb≠H):ez w W ((W.setCell (pK pb o) v).setCell (pK H 0) u) pb o v:=
 ⟨rfl,rfl,rfl,by simp,fun k hk hn=>by
  rw [Below.heap_setCell _ _ _ k (by show k≠H;omega),Below.heap_setCell _ _ _ k hn],Below.heap_setCell _ _ _ pb hp⟩
theorem VO (pb co:Nat) (op:Int) (a b:Nat) (im:Int) (fn:Nat) (w:World) (hf:∀W,Below w.heap.size w W->Calls Tryz.prog 188 #[pq pb co] W fun e w'=>e= .returned (.agg #[.int .u8 op,.int .i64 (a:Int),.int .i64 (b:Int),.int .i16 im])/\Below W.heap.size W w') (ht:0<=op/\op<=24/\CD.getD op.toNat .nilFunc= .func (.func fn) #[] #[]) (hent:∀args w,(callFunc fn args).run Tryz.prog w= .ok (.enter fn args) w) (hl:pb<w.heap.size) (n:Int) (Q:World->World->Prop) (hw:∀W,Below w.heap.size w W->Calls Tryz.prog fn #[pq pb co,.agg #[.int .u8 op,.int .i64 (a:Int),.int .i64 (b:Int),.int .i16 im]] W fun e w'=>e= .returned (.int .u64 n)/\W.grownBy w' (some pb)/\(∃z,w'.cell? (pK pb co)=some (.int .u64 z))/\w'.frozen? (pK pb co)=false/\Q W w'):
  Calls Tryz.prog 154 #[pq pb co] w fun e w'=>e= .returned (.tuple #[.bool (op==24),.int .i64 0])/\∃W W',Below w.heap.size w W/\W.grownBy W' (some pb)/\Q W W'/\ez w W' w' pb co (.int .u64 n):=by
 have hmf:∀(fn:Fn) (first cap:Array Value) (w:World),(Instr.makeFunc fn first cap).run Tryz.prog w= .ok (.func fn first cap) w:=fun _ _ _ _=>rfl
 obtain ⟨W1,hW1⟩:∃W1,W1=w.alloc (Obj.cells #[.int .i64 0] 3):=⟨_,rfl⟩
 have hb1:Below w.heap.size w W1:=by rw [hW1];exact (zw _ _).alloc (zx _) _
 have hr1:AG W1 w.heap.size 3 [.int .i64 0]:=by rw [hW1];exact AG.new w 3 _
 have HF:=AC (hf W1 hb1)
 have HB1:=AC hb1
 have HR1:=AC hr1
 have HW1:=AC hW1
 have HWK:=AC hw
 have HT:=AC ht
 have HPL:=AC hl
 clear hl
 clear hf hb1 hr1 hW1 hw ht
 go_enter_defers Tryz.func154,Tryz.ntmps154
 go_wp2_with fail
 rw [<-AB HW1]
 refine (AB HF).mono ?_
 rintro e w2 ⟨rfl,hb2⟩
 have hr2:=(AB HR1).below hb2 (AB HR1).lt
 have hb2:=(AB HB1).trans (hb2.mono (AB HB1).size)
 obtain ⟨W3,hW3⟩:∃W3,W3=w2.alloc (Obj.cells #[.int .u8 op,.int .i64 (a:Int),.int .i64 (b:Int),.int .i16 im] 350):=⟨_,rfl⟩
 have hk3:Below w2.heap.size w2 W3.drew:=by rw [hW3];exact ((zw _ _).alloc (zx _) _).drew
 have hb3:Below w.heap.size w W3.drew:=hb2.trans (hk3.mono hb2.size)
 have hr3:=hr2.below hk3 hr2.lt
 have hi3:AG W3.drew w2.heap.size 350 [.int .u8 op,.int .i64 (a:Int),.int .i64 (b:Int),.int .i16 im]:=by
  have hi0:=AG.new w2 350 [.int .u8 op,.int .i64 (a:Int),.int .i64 (b:Int),.int .i16 im]
  rw [hW3]
  exact hi0.below (zw _ _).drew hi0.lt
 have HL2:=AC (show w.heap.size<w2.heap.size from hr2.lt)
 obtain ⟨HI,hHI⟩:∃HI,HI=w2.heap.size:=⟨_,rfl⟩
 have HHI:=AC hHI.symm
 rw [<-hHI] at hi3
 have HBX:=AC hb3
 have HST:=AC hr3
 have HIN:=AC hi3
 have HW3:=AC hW3
 have HLI:=AC (show w.heap.size<HI from by rw [hHI];exact hr2.lt)
 clear hr2 hb2 hk3 hb3 hr3 hi3 hW3 hHI HF HR1
 go_upto_region 3 with fail
 rw [<-AB HW3,AB HHI]
 clear HHI HW3 HW1
 refine BA ?_
 intro Ac hA
 have e0:Ac.eval (.tmp 0)= pq pb co:=by rw [hA];rfl
 have e2:Ac.eval (.tmp 2)= .bool false:=by rw [hA];rfl
 have e3:Ac.eval (.tmp 3)= pq w.heap.size 0:=by rw [hA];rfl
 have e4:Ac.eval (.tmp 4)= pq HI 0:=by rw [hA];rfl
 have esz:Ac.tmps.size=21:=by rw [hA];rfl
 have edf:Ac.defers=[{target:= .fn (.func 187) #[pq w.heap.size 0],args:=#[]}]:=by rw [hA]
 have HAC:=AC hA
 clear hA
 refine wp_region_held_drew (S:=fun W=>aZ W HI op a b im) (by kernel_rfl) (VM (AB HIN)) (fun hS=> ?_)
 refine GJ (i:=0) (some 8) rfl rfl (by kernel_rfl) (by kernel_rfl) (by kernel_rfl) (fun c a w h=>Kk (by decide) (by decide) h) (AK rfl _ rfl (pq pb co) (by simp [AF,AE,esz,e0,e4,AI])) hS ?_
 refine GJ (i:=2) (some 10) rfl rfl (by kernel_rfl) (by kernel_rfl) (by kernel_rfl) (fun c a w h=>Kk (by decide) (by decide) h) (AO rfl _ _ _ rfl (pq HI 0) (by simp [AF,AE,esz,e0,e4,AI]) (pq HI 0) (TY HI)) hS ?_
 refine GJ (i:=3) (some 11) rfl rfl (by kernel_rfl) (by kernel_rfl) (by kernel_rfl) (fun c a w h=>Kk (by decide) (by decide) h) (AQ rfl _ _ rfl (pK HI 0) (by simp [AF,AE,esz,e0,e4,AI]) (.int .u8 op) (eH HI op a b im)) hS ?_
 refine GJ (i:=5) (some 13) rfl rfl (by kernel_rfl) (by kernel_rfl) (by kernel_rfl) (fun c a w h=>Kk (by decide) (by decide) h) (AK rfl _ rfl (pq pb co) (by simp [AF,AE,esz,e0,e4,AI])) hS ?_
 refine GJ (i:=6) (some 14) rfl rfl (by kernel_rfl) (by kernel_rfl) (by kernel_rfl) (fun c a w h=>Kk (by decide) (by decide) h) (AQ rfl _ _ rfl (pK HI 0) (by simp [AF,AE,esz,e0,e4,AI]) (.agg #[.int .u8 op,.int .i64 (a:Int),.int .i64 (b:Int),.int .i16 im]) (Wg HI op a b im)) hS ?_
 refine rdy [1] (by kernel_rfl) (AllReadyH.cons rfl (fun K hK=> ?_) AllReadyH.nil)
 refine Bt rfl 189 _ _ rfl #[] (by simp) Nw _ (fun e w' h=>⟨_,h.1⟩) (Px W3.drew) (some 9) rfl ?_
 rintro r w4 ⟨hr,hb4⟩
 obtain rfl:r= .agg CD.toArray:=by injection hr
 have hi4:=(AB HIN).below hb4 (AB HIN).lt
 have hs4:=(AB HST).below hb4 (AB HST).lt
 have hb4:=(AB HBX).trans (hb4.mono (AB HBX).size)
 refine hK.out _ _ (VM hi4) (fun hS=> ?_)
 clear hK K hr HIN HST HBX
 have HWW:=AC (AB HWK w4 hb4)
 have HBX:=AC hb4
 have HST:=AC hs4
 have HIN:=AC hi4
 clear hb4 hs4 hi4 HWK
 refine GJ (i:=4) (some 12) rfl rfl (by kernel_rfl) (by kernel_rfl) (by kernel_rfl) (fun c a w h=>Kk (by decide) (by decide) h) (Kl rfl (.tmp 9) (.tmp 11) rfl op (by simp [AF,AE,esz,e0,e4,AI]) (by simp [AF,AE,esz,e0,e4,AI]) _ (AB HT)) hS ?_
 refine rdy [7] (by kernel_rfl) (Ta (i:=7) rfl rfl fn _ _ _ rfl (by simp [AF,AE,esz,e0,e4,AI]) #[pq pb co,.agg #[.int .u8 op,.int .i64 (a:Int),.int .i64 (b:Int),.int .i16 im]] (by simp [AF,AE,esz,e0,e4,AI]) hent _ (fun e w' h=>⟨_,h.1⟩) (AB HWW) (some 15) rfl ?_)
 rintro r w5 ⟨hr,hg5,⟨z,hz5⟩,hf5,hq5⟩
 obtain rfl:r= .int .u64 n:=by injection hr
 have hHI:w.heap.size<HI:=AB HLI
 have hpl:=AB HPL
 have hi5:=(AB HIN).grown hg5 (by simp;omega)
 have hs5:=(AB HST).grown hg5 (by simp;omega)
 refine ⟨VM hi5,?_⟩
 have hS:=VM hi5
 obtain ⟨w6,hw6⟩:∃w6,w6=w5.setCell (pK pb co) (.int .u64 n):=⟨_,rfl⟩
 have RST:=AC (show (Instr.storeAt 75 (pq pb co) (.int .u64 n)).run Tryz.prog w5= .ok () w6 from by
  rw [hw6]
  clear hr hg5 hq5 hHI hpl hi5 hs5 hS hw6 HWW HBX HST HIN HPL HLI HAC e0 e2 e3 e4 esz edf HT HB1 hmf
  go_simp)
 have hi6:AG w6 HI 350 [.int .u8 op,.int .i64 (a:Int),.int .i64 (b:Int),.int .i16 im]:=by rw [hw6];exact hi5.set_other (by omega) co _
 have hs6:AG w6 w.heap.size 3 [.int .i64 0]:=by rw [hw6];exact hs5.set_other (by omega) co _
 have HEND:=AC (show ∃W W',Below w.heap.size w W/\W.grownBy W' (some pb)/\Q W W'/\ez w W' (w6.setCell (pK w.heap.size 0) (.int .i64 0)) pb co (.int .u64 n) from ⟨w4,w5,AB HBX,hg5,hq5,by rw [hw6];exact af (zx _) (by omega)⟩)
 have hS6:=VM hi6
 have HI6:=AC hi6
 have HS6:=AC hs6
 clear hr hg5 hq5 hpl hi5 hs5 hw6 HWW HBX HST HIN HPL hz5 hf5 hi6 hs6
 refine GJ (i:=8) (some 16) rfl rfl (by kernel_rfl) (by kernel_rfl) (by kernel_rfl) (fun c a w h=>Kk (by decide) (by decide) h) (AX rfl _ rfl (pK pb co) (by simp [AF,AE,esz,e0,e4,AI])) hS ?_
 refine GJ (i:=9) (some 17) rfl rfl (by kernel_rfl) (by kernel_rfl) (by kernel_rfl) (fun c a w h=>Kk (by decide) (by decide) h) (AO rfl _ _ _ rfl (pq pb co) (by simp [AF,AE,esz,e0,e4,AI]) (pq pb co) (ae pb co)) hS ?_
 refine Ef ?_
 intro A2 hA2
 have g17:A2.eval (.tmp 17)= pq pb co:=by rw [hA2];simp [AF,AE,esz,e0,e4,AI]
 have g15:A2.eval (.tmp 15)= .int .u64 n:=by rw [hA2];simp [AF,AE,esz,e0,e4,AI]
 have HAC2:=AC hA2
 clear hA2
 refine rdy [10] (by kernel_rfl) (AllReadyH.cons rfl (fun K hK=> ?_) AllReadyH.nil)
 refine De rfl _ (.tmp 17) (.tmp 15) rfl (pK pb co) (.int .u64 n) g17 g15 (AB RST) rfl ?_
 refine hK.out _ _ hS6 (fun _=> ?_)
 clear hK K
 refine wpAnyH_done (by kernel_rfl) ?_ _
 rw [AB HAC2,AB HAC]
 simp only [Act.put,zm,zi,zj]
 clear RST HAC HAC2 g17 g15 e0 e2 e3 e4 esz edf hS hS6 HT HB1 HLI hmf
 have y0:=(AB HI6).cell (j:=0) rfl
 have z0:=(AB HS6).cell (j:=0) rfl
 have zf:=(AB HS6).frozen 0
 clear HI6 HS6
 go_wp2
 exact aY (op==24) rfl rfl rfl (z8 _ _ _ z0) ⟨rfl,AB HEND⟩
end
end Go.Proofs.YtdchgbmliojoiaaGreatDoor
