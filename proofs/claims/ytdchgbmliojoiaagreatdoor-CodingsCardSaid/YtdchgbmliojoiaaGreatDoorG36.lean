import Derived.Test.YtdchgbmliojoiaaGreatDoorG29
import Derived.Test.YtdchgbmliojoiaaGreatDoorG35
import Derived.Test.YtdchgbmliojoiaaGreatDoorG34
set_option maxRecDepth 100000
set_option maxHeartbeats 2000000
set_option linter.unusedVariables false
set_option linter.unusedSimpArgs false
namespace Go.Proofs.YtdchgbmliojoiaaGreatDoor
section
open Go Go.RowKit Go.Maps
def I0 (w:World) (m:Nat):Prop:=∃clock,w.heap[m]? =some (.map #[] clock)
theorem I0.below {w w':World} {m:Nat} (h:I0 w m) (hl:m<w.heap.size) (hb:Below w.heap.size w w'):I0 w' m:=by
 obtain ⟨c,hc⟩:=h
 exact ⟨c,by rw [hb.block m hl];exact hc⟩
theorem Jd:(Tryz.prog.info? 99).map (·.comparable)=some true:=by kernel_rfl
theorem ew (cb:Nat) (w:World):(binOp .neq 192 (.iface 99 (pq cb 0)) (.iface 99 (pq cb 0))).run Tryz.prog w= .ok (.bool false) w:=by
 have hc:=Jd
 cases hi:Tryz.prog.info? 99 with
 |none=>simp [hi] at hc
 |some i=>
  have hcc:i.comparable=true:=by simpa [hi] using hc
  have h:∀d:Nat,(Op.equalIn (d+2) 192 (.iface 99 (pq cb 0)) (.iface 99 (pq cb 0))).run Tryz.prog w= .ok true w:=fun d=>by
   simp [Op.equalIn,run_underlying Tryz.underlying192,run_underlying Tryz.underlying99,typeInfo,hi,hcc,sameAddr]
  simp only [binOp]
  simp [Op.equal,Op.maxDepth,h 9998]
def GM (cb:Nat) (xs:List Value):Prop:=xs.length=8/\∀x∈xs,x=Dz cb\/x= .nilIface
theorem TI (cb:Nat):GM cb (DW cb 3):=⟨rfl,fun x hx=>by
 rw [aA] at hx
 simp only [List.mem_cons,List.not_mem_nil,or_false] at hx
 rcases hx with h|h|h|h|h|h|h|h<;>simp [h]⟩
theorem TJ (xs:List Value) (i:Nat) (h1:i<xs.length) (hx:xs.length=8) (w:World):(Instr.index 193 (.agg xs.toArray) (.int .i64 (i:Int))).run Tryz.prog w= .ok (xs.getD i .nilIface) w:=by
 have h2:(i:Int)<8:=by omega
 simp [Instr.index,asIntOf,run_underlying Tryz.underlying193,h2,go_sem]
 rw [zz h1,if_pos (by omega)]
 rfl
theorem Lx (kb pm pb cb:Nat) (xs:List Value) (w:World) (hk:w.cell? (pK kb 9)=some (.map (some pm))) (hk6:w.cell? (pK kb 6)=some (pq cb 0)) (hkl:kb<w.heap.size) (hm:A6 w pm pb) (hpl:pb<w.heap.size) (hx:GM cb xs) (hf:w.rangeAt pb 65814 xs):
  Calls Tryz.prog 163 #[pq kb 0] w fun e w'=>e= .returned (.map (some w.heap.size))/\I0 w' w.heap.size/\Below w.heap.size w w':=by
 obtain ⟨W1,hW1⟩:∃W1,W1=w.alloc (.map #[] 0):=⟨_,rfl⟩
 have hb1:Below w.heap.size w W1:=by rw [hW1];exact (zw _ _).alloc (zx _) _
 have hs1:W1.heap.size=w.heap.size+1:=by rw [hW1];simp
 have hn1:I0 W1 w.heap.size:=⟨0,by rw [hW1];exact heap_alloc_new w _⟩
 have hm1:A6 W1 pm pb:=hm.kept (A7 hb1) (by simp)
 have k9:W1.cell? (pK kb 9)=some (.map (some pm)):=by rw [hb1.cell (p:=(pK kb 9)) hkl];exact hk
 have hpm:pm<w.heap.size:=yp hm
 have HX:=AC hx
 have HK6:=AC hk6
 have HF:=AC hf
 have HM1:=AC hm1
 have HN1:=AC hn1
 have HB1:=AC hb1
 have HW1:=AC hW1
 have HS1:=AC hs1
 have hmm:= @run_makeMap Tryz.prog
 clear hx hm hf hm1 hn1 hb1 hk hk6 hW1 hs1
 go_enter Tryz.func163,Tryz.ntmps163
 go_upto_region 2 with fail
 rw [<-AB HW1]
 clear hmm
 go_wp2_with (first|(at_range;refine wpList_range_own _ rfl _ 106 rfl 3 104 G7 Tryz.underlying106 CQ pm 1 (Iu pb) rfl (AB HM1) ?_;intro w0 hrg0 hg0 hs0)|go_in)
 have HR0:=AC hrg0
 have hb0:Below W1.heap.size W1 w0:=⟨hg0.os,hg0.tape,hg0.output,hg0.size,fun k hk=>hg0.block k hk (by simp)⟩
 have HB0:=AC ((AB HB1).trans (hb0.mono (AB HB1).size))
 have HN0:=AC ((AB HN1).below (by rw [AB HS1];omega) hb0)
 have HS0:=AC (show W1.heap.size<w0.heap.size from by omega)
 clear hrg0 hg0 hs0 k9 hb0
 go_frame
 go_loopw [5] (fun _ wr=>∃(left:Lit->Bool) (cnt:Nat),Hid (wr.ranges Tryz.prog 3 CQ pm W1.heap.size 1 (Iu pb) left cnt)/\Hid (∀kl,left kl=true->kl= .int .i64 1)/\Hid (I0 wr w.heap.size)/\Hid (Below w.heap.size w wr)/\Hid (W1.heap.size<wr.heap.size)) (fun _ wr=>wr.rangeLeft pm W1.heap.size)
 case atStart=>exact ⟨_,_,HR0,AC (fun kl h=>Po h),HN0,HB0,HS0⟩
 case round=>
  obtain ⟨left,cnt,HRG,HLF,HNM,HB,HSZ⟩:=hrel
  go_wp2_with (first
   |(at_next;refine wpList_next_ranges _ rfl _ rfl 3 G7 CQ (Value.int .i64) CG Zv Ux pm W1.heap.size 1 (Iu pb) left cnt rfl (AB HRG) ?_ ?_)
   |go_in)
  ·intro hc0 hl0
   go_wp2
   go_ret
   exact ⟨rfl,AB HNM,AB HB⟩
  ·intro x c kl y1 y2 w1 cnt1 hkey hlk hv hat hrg1 hlt hg1 hs1 hen
   have hkl':=AB HLF kl hlk
   subst hkl'
   obtain rfl:=WS hkey rfl
   obtain rfl:=NY hv (show y1=_ by rw [<-hat .nil];exact Sv pb .nil)
   have hsw:=AB HS1
   have hszz:=AB HSZ
   have hb1:Below w.heap.size w w1:=(AB HB).trans ⟨hg1.os,hg1.tape,hg1.output,hg1.size,fun k hk=>hg1.block k (by have:=(AB HB).size;omega) (by simp;omega)⟩
   have hn1:I0 w1 w.heap.size:=by
    obtain ⟨ck,hck⟩:=AB HNM
    exact ⟨ck,by rw [hg1.block w.heap.size (by omega) (by simp;omega)];exact hck⟩
   have hf1:w1.rangeAt pb 65814 _:=fun j v hv=>by rw [hb1.cell (p:=(pK pb (65814+j))) hpl];exact AB HF j v hv
   have k6:w1.cell? (pK kb 6)=some (pq cb 0):=by rw [hb1.cell (p:=(pK kb 6)) hkl];exact AB HK6
   have HF1:=AC hf1
   have HRG1:=AC hrg1
   have HFN:=AC (And.intro hn1 hb1)
   have HSZ1:=AC (show W1.heap.size<w1.heap.size from by have:=hg1.size;omega)
   have HLT:=AC hlt
   clear hkey hlk hv hat hrg1 hlt hg1 hs1 hb1 hn1 hf1 hsw hszz
   unfold CG at hen ⊢
   go_wp2_with (refine wpList_load_mid rfl 193 _ rfl pb 65814 (by rfl) _ _ (AB HF1) Tryz.underlying193 rfl (by rw [Qx,(AB HX).1]) ?_)
   clear hen
   have HRGO:=AC ((AB HRG).left_eq)
   go_loopw [22] (fun i wi=>∃k:Nat,k<=8/\i= .int .i64 k/\wi=w1) (fun i _=>8-(intOf i).toNat)
   case atStart=>exact ⟨0,by omega,rfl,rfl⟩
   case round=>
    obtain ⟨k,hk,rfl,rfl⟩:=hrel
    have ce:=ew cb
    by_cases hk8:k<8
    ·have hxl:=(AB HX).1
     have ix:=TJ xs k (by omega) hxl
     obtain ⟨x,hxe⟩:∃x,x=xs.getD k .nilIface:=⟨_,rfl⟩
     have hor:x=Dz cb\/x= .nilIface:=by
      refine (AB HX).2 x ?_
      rw [hxe,zl,zz (by omega)]
      exact List.getElem_mem _
     rw [<-hxe] at ix
     have hk8':(k:Int)<8:=by omega
     clear hxe hxl hk8
     unfold Dz at hor
     rcases hor with rfl|rfl
     ·go_wp2
      exact ⟨⟨k+1,by omega,by simp,trivial⟩,by simp only [intOf];omega⟩
     ·go_wp2
      exact ⟨⟨k+1,by omega,by simp,trivial⟩,by simp only [intOf];omega⟩
    ·have hk8':¬(k:Int)<8:=by omega
     go_wp2
     refine ⟨⟨_,_,HRG1,AC (fun kl h=> ?_),AC (AB HFN).1,AC (AB HFN).2,HSZ1⟩,?_⟩
     ·have:=(Bool.and_eq_true _ _▸h:left kl=true/\(!kl.sameKey (.int .i64 1))=true)
      exact AB HLF kl this.1
     ·rw [(AB HRG1).left_eq,AB HRGO];have:=AB HLT;omega
end
section
open Go Go.RowKit
theorem D6.below {w W w':World} {pb o:Nat} {v:Value} (h:D6 w W pb o v) (hb:Below W.heap.size W w') (hl:pb<W.heap.size):D6 w w' pb o v:=
 ⟨⟨hb.os.trans h.1.os,hb.tape.trans h.1.tape,hb.output.trans h.1.output,zh h.1.size hb.size,fun k hk hn=>(hb.block k (za hk h.1.size)).trans (h.1.block k hk hn)⟩,(hb.block pb hl).trans h.2⟩
theorem dR {w:World} {pb co:Nat} {PC:Int} {R:List Int} (h:G9 w pb co PC R) (op:Int) {a b:Nat} {im:Int} (ha:a<16) (hi: -32768<=im/\im<=32767):Calls Tryz.prog 267 #[pq pb co,.agg #[.int .u8 op,.int .i64 (a:Int),.int .i64 (b:Int),.int .i16 im]] w (fun e w'=>e= .returned (.int .u64 (IntKind.u64.wrap (PC+IntKind.u64.wrap im)))/\D6 w w' pb (co+1+a) (.int .u64 (IntKind.u64.wrap (PC+4)))):=by
 have hl:=h.lt
 have HB:=Ad.new w op a b im
 obtain ⟨W1,hW1⟩:∃W1,W1=w.alloc (Obj.cells #[.int .u8 op,.int .i64 (a:Int),.int .i64 (b:Int),.int .i16 im] 350):=⟨_,rfl⟩
 rw [<-hW1] at HB
 have h1:=(h.below HB.below).below ((zw W1.heap.size W1).drew)
 obtain ⟨X,hX⟩:∃X,X=IntKind.u64.wrap (PC+4):=⟨_,rfl⟩
 obtain ⟨Y,hY⟩:∃Y,Y=IntKind.u64.wrap im:=⟨_,rfl⟩
 obtain ⟨W3,hW4⟩:∃W3,W3=(W1.setCell (pK pb (co+1+a)) (.int .u64 X)).drew:=⟨_,rfl⟩
 have hW3:W3=W1.drew.setCell (pK pb (co+1+a)) (.int .u64 X):=hW4
 have hg:=AS (zk W1.drew (some pb)) (co+1+a) (.int .u64 X)
 have hc3:D6 W1.drew W3 pb (co+1+a) (.int .u64 X):=by rw [hW3];exact ⟨hg,rfl⟩
 rw [<-hW3] at hg
 have hs1:w.heap.size<W1.heap.size:=by rw [hW1];simp
 have hs3:pb<W3.heap.size:=by have:=hg.size;have:W1.heap.size<=W3.heap.size:=this;omega
 have hb:=HB.drew.c
 have hne:some w.heap.size≠some pb:=by simp;omega
 have B3:JT w W3 op a b im:=⟨hg.cell hb.1 hne,hg.cell hb.2.1 hne,hg.cell hb.2.2.1 hne,hg.cell hb.2.2.2 hne⟩
 have hp3:W3.cell? (pK pb co)=some (.int .u64 PC):=by
  rw [hW3,z7 _ _ _ _ (fun q=>by injection q with q1 q2;omega)]
  exact h1.pc
 have HI:=AC (Nt op a b im W3.drew hi)
 have HN:=AC (Fj pb co PC W1.drew h1.pc)
 rw [<-hX] at HN
 unfold IF at HI
 rw [<-hY] at HI
 have BX:=AC hb
 have BX3:=AC (show JT w W3 op a b im/\W3.cell? (pK pb co)=some (.int .u64 PC) from ⟨B3,hp3⟩)
 have BX4:=AC (show ∀W,Below W3.heap.size W3 W->JT w W op a b im/\W.cell? (pK pb co)=some (.int .u64 PC) from fun W hW=>⟨⟨by rw [hW.cell (p:=(pK _ 0)) (zu W3 _ B3.1)];exact B3.1,by rw [hW.cell (p:=(pK _ 1)) (zu W3 _ B3.2.1)];exact B3.2.1,by rw [hW.cell (p:=(pK _ 2)) (zu W3 _ B3.2.2.1)];exact B3.2.2.1,by rw [hW.cell (p:=(pK _ 3)) (zu W3 _ B3.2.2.2)];exact B3.2.2.2⟩,by rw [hW.cell (p:=(pK pb co)) hs3];exact hp3⟩)
 have HC:=AC (show ∀W,Below W3.heap.size W3 W->D6 w W pb (co+1+a) (.int .u64 X) from fun W hW=>(hc3.of_below HB.below.drew hl).below hW hs3)
 have ra:=h1.regs a ha
 have fa:=h1.fz (co+1+a)
 have HW1:=AC hW1
 have HW3:=AC hW4
 have HX:=AC hX
 have i0:(0:Int)<=(a:Int):=by omega
 have i1:(a:Int)<16:=by omega
 rw [<-hX,<-hY]
 clear HB h1 h hl hg hc3 hs1 hs3 hb hne B3 hp3 hW1 hW3 hW4 hX hY hi
 go_enter Tryz.func267,Tryz.ntmps267
 go_upto_region 1 with fail
 rw [<-AB HW1]
 go_region_held (fun W=>W.cell? (pK w.heap.size 0)=some (.int .u8 op)/\W.cell? (pK w.heap.size 1)=some (.int .i64 (a:Int))/\W.cell? (pK w.heap.size 2)=some (.int .i64 (b:Int))/\W.cell? (pK w.heap.size 3)=some (.int .i16 im)) (first|exact AB BX|(rw [<-AB HW3];exact (AB BX3).1)) (first|(go_at_call 325;refine (AB HN).mono ?_;rintro e wn ⟨rfl,rfl⟩))
 rw [<-AB HW3]
 clear ra fa
 go_upto_region 2 with fail
 go_region_held (fun W=>W.cell? (pK w.heap.size 0)=some (.int .u8 op)/\W.cell? (pK w.heap.size 1)=some (.int .i64 (a:Int))/\W.cell? (pK w.heap.size 2)=some (.int .i64 (b:Int))/\W.cell? (pK w.heap.size 3)=some (.int .i16 im)/\W.cell? (pK pb co)=some (.int .u64 PC)) (first|((have hh:=AB BX4 _ (zw W3.heap.size W3).drew;exact ⟨hh.1.1,hh.1.2.1,hh.1.2.2.1,hh.1.2.2.2,hh.2⟩))|((have hh:=AB BX4 _ (AB HB5);exact ⟨hh.1.1,hh.1.2.1,hh.1.2.2.1,hh.1.2.2.2,hh.2⟩))) (first|(go_at_call 322;refine (AB HI).mono ?_;rintro e wn ⟨rfl,hb⟩;have HB5:=AC (show Below W3.heap.size W3 wn from (zw W3.heap.size W3).drew.trans hb);clear hb))
 go_wp2
 go_ret
 exact ⟨rfl,AB HC _ (AB HB5)⟩
theorem dm {l:List Int} {M:Int} (h:∀x∈l,0<=x/\x<=M) (hM:0<=M) (r:Nat):0<=l.getD r 0/\l.getD r 0<=M:=by
 rw [zl]
 cases hr:l[r]? with
 |none=>exact ⟨Int.le_refl 0,hM⟩
 |some x=>exact h x (zv hr)
theorem Vs:(Aa [BI]).all (fun x=>decide (0<=x)&&decide (x<=255))=true:=by kernel_rfl
theorem Vt {B:List Int} (hB:AY B) (s:Seg) (n:Nat):0<=Hq B s n/\Hq B s n<=255:=by
 unfold Hq
 split
 ·exact hB _
 ·exact ⟨Int.le_refl 0,by decide⟩
theorem Rd {B:List Int} (hB:AY B):∀q∈Am B,AY q.bytes:=by
 intro q hq
 obtain ⟨p,_,hq⟩:=List.mem_flatMap.1 hq
 obtain ⟨s,_,rfl⟩:=yw.1 hq
 refine CB.2 (fun x hx=> ?_)
 obtain ⟨j,_,rfl⟩:=yw.1 hx
 exact Vt hB s _
theorem Yt {R:List Int} (h:∀x∈R,0<=x/\x<=255):∀q∈Cp R,AY q.bytes:=by
 intro q hq
 simp only [Cp,List.mem_cons,List.mem_nil_iff,or_false] at hq
 rcases hq with rfl|rfl
 ·exact CB.2 (fun x hx=>h x (List.mem_of_mem_take hx))
 ·exact CB.2 (fun x hx=>h x (List.mem_of_mem_drop hx))
theorem fQ {R:List Int} (h:R.all (fun x=>decide (0<=x)&&decide (x<=255))=true):∀x∈R,0<=x/\x<=255:=fun x hx=>by simpa using zb.1 h x hx
theorem Re:∀q∈Cp (Aa [BI]),AY q.bytes:=Yt (fQ Vs)
theorem T7 {p:PK} (h:p.ExecOk [0] 0 At [BI]) (hB:AY (p.fileOf At)):POk (Cj p):=by
 refine ⟨?_,fun q hq=> ?_,?_,fun r=>dm (fun x hx=> ?_) (by decide) r,rfl,rfl⟩
 ·have:=J7 h.2.2.2.1
  simp [Cj,Cp];omega
 ·rcases List.mem_append.1 hq with h1|h1
  ·exact ⟨(JI h.2.2.2.1 q h1).2.2,Rd hB q h1⟩
  ·exact ⟨(JQ _ (Cc h.2.2.2.2.1) q h1).2.2,Re q h1⟩
 ·have:=BH hB 24 8 (zx 8)
  exact ⟨this.1,by show AW (p.fileOf At) 24 8<=_;omega⟩
 ·rcases List.mem_append.1 hx with h1|h1
  ·have:=List.eq_of_mem_replicate h1
   omega
  ·have e:x=65024+(EE [BI]:Int):=by simpa using h1
   have:EE [BI]<=512:=by unfold EE;omega
   omega
theorem MD {p:PK} {w w':World} {k:RK} {cs:List (List Int)} {g cap gp pc gn cn:Nat} (h:EY p w w' k cs g cap gp pc gn cn) (s:ByteArray):AY (p.fileOf s):=by
 have e:p.cs=cs:=by rw [<-h.toP];rfl
 have hn:∀n,AY (cs.getD n []):=fun n=>by
  rw [zl]
  cases hc:cs[n]? with
  |none=>exact CB.2 (fun x hx=>absurd hx (by simp))
  |some c=>exact h.bytes c (zv hc)
 show AY (p.cs.getD _ [])
 rw [e]
 exact hn _
theorem T8 {p:PK} {w w':World} {k:RK} {cs:List (List Int)} {g cap gp pc gn cn:Nat} (h:EY p w w' k cs g cap gp pc gn cn) (hi:Bo p):Td w' w.heap.size (w.heap.size+2) (w.heap.size+1) g cap gp pc k (Cj p) (some (pK gn 0)) gn cn:=by
 have hgp:=h.procs.lt gp rfl
 have hgn:=h.pages.lt gn rfl
 have hg:=h.rep.2.lt g rfl
 have hlen:(Am (p.fileOf At)++Cp (Aa [BI])).length=(Am (p.fileOf At)).length+2:=by simp [Cp]
 have hlen2:(Cj p).PS.length=(Am (p.fileOf At)).length+2:=hlen
 have hxs:p.xs=k.inos.map erase:=by rw [<-h.toP];rfl
 have hap:=h.apart
 refine ⟨h.rep,by omega,by omega,h.pv,h.nils.1,h.nils.2.1,by have:=h.inos;omega,fun x hx=> ?_,fun x hx=> ?_,⟨fun j v hv=> ?_,fun _=>rfl,?_,fun i=>h.pages.frozenAt i,fun i=>h.procs.frozenAt i,by omega,by simp [Cj]⟩,T7 h.ok (MD h _),by omega,hgn.2,by omega⟩
 ·have hm:erase x∈p.xs:=by rw [hxs];exact yw.2 ⟨x,hx,rfl⟩
  have hd:=hi.down _ hm
  by_cases h0:x.parent=0
  ·exact .inr (hi.root1 _ hm h0).1
  ·have:0<=x.parent:=hd.1
   exact .inl (by omega)
 ·obtain ⟨i,hx⟩:=yo.1 hx
  have hil:=(zy.1 hx).1
  obtain ⟨c,hc⟩:∃c,cs[i]? =some c:=⟨_,zz (by rw [h.cont.1];exact hil)⟩
  obtain ⟨a,d,he⟩:=(h.cont.2 i x c hx hc).len
  exact ⟨a,_,d,he⟩
 ·have hj:=(zy.1 hv).1
  have hr:=h.procs
  rw [RX] at hr
  rw [zq,hr.cellAt j (by exact hj)]
  rw [hlen2] at hv
  exact hv
 ·refine ea (fun q hq=> ?_) (base:=w.heap.size+2) (gc:=cn) ?_
  ·rcases List.mem_append.1 hq with h1|h1
   ·exact (JI h.ok.2.2.2.1 q h1).2.2
   ·exact (JQ _ (Cc h.ok.2.2.2.2.1) q h1).2.2
  ·show w'.ownsRow _ _ _ (.slice (some (pK gn 0)) (Am (p.fileOf At)++Cp (Aa [BI])).length cn) (Am (p.fileOf At)++Cp (Aa [BI])).length (Cd (Am (p.fileOf At)++Cp (Aa [BI])))
   rw [hlen,VU]
   exact h.pages
def Gu (w w':World):Prop:=∀(b:Nat) (vs:List Value),AG w b 5 vs->AG w' b 5 vs
structure EK (KR2:World->Nat->Nat->Addr->PK->AP->Prop):Prop where
 stable:∀(w w':World) (B C:Nat) (kp:Addr) (P:PK) (p:AP),KR2 w B C kp P p->w.heap.size<=w'.heap.size->(∀b,b<C->w'.heap[b]? =w.heap[b]?)->KR2 w' B C kp P p
 procs:∀(w:World) (B C:Nat) (kp:Addr) (P:PK) (p:AP),KR2 w B C kp P p->Can p->Calls Tryz.prog 57 #[.pointer (some kp)] w (F8 w [] [p])
 files:∀(w:World) (B C:Nat) (kp:Addr) (P:PK) (p:AP),KR2 w B C kp P p->∃FL,Calls Tryz.prog 59 #[.pointer (some kp)] w (CS w FL)/\Pp P.xs P.cs FL/\∀f∈FL,f.bytes.length<=1000000
 used:∀(w:World) (B C:Nat) (kp:Addr) (P:PK) (p:AP),KR2 w B C kp P p->Can p->Calls Tryz.prog 61 #[.pointer (some kp)] w fun e w2=>e= .returned (.agg (BV [p.PS.length].length [p.PS.length].sum 0 P.xs.length (AU P.cs)).toArray)/\Below w.heap.size w w2
 step:∀(w:World) (B C:Nat) (kp:Addr) (P:PK) (p:AP),KR2 w B C kp P p->Can p->p.st=0->((AH p.PS p.pc).2=0->(AH p.PS p.pc).1.op≠24)->C<=w.heap.size->Calls Tryz.prog 51 #[.pointer (some kp),.int .i64 1] w fun e w'=>e= .returned .nilIface/\(KR2 w' B C kp P (Au p)/\Gu w w')/\Cl w w' B C
 stepz:∀(w:World) (B C:Nat) (kp:Addr) (P:PK) (p:AP),KR2 w B C kp P p->Can p->p.st=2->C<=w.heap.size->Calls Tryz.prog 51 #[.pointer (some kp),.int .i64 1] w fun e w'=>∃ev,e= .returned ev/\(KR2 w' B C kp P p/\Gu w w')/\Cl w w' B C/\Calls Tryz.prog 8 #[ev] w' fun e W2=>e= .returned (.int .i64 24)/\Below w'.heap.size w' W2
structure Nm where
 N:Nat
 B:Nat
 C:Nat
 base:Nat
 kb:Nat
 gp:Nat
 ga:Nat
 cp:Nat
 wb:Nat
 kp:Addr
 k:RK
 cs:List (List Int)
 P:PK
structure Nm.Ok (m:Nm):Prop where
 toP:m.k.toP m.cs=m.P
 nums:m.N<=m.B/\m.B<=m.C/\m.C<=m.kb/\m.kb<m.base/\m.base<=m.gp/\m.base<=m.ga/\m.kb<m.wb/\m.gp<m.wb/\m.ga<m.wb
 apart:∀x∈m.k.inos,∀q n c,x.bytes= .slice (some (pK q 0)) n c->q≠m.kb/\q≠m.gp/\q≠m.ga
 some_:0<m.k.inos.length
 cnt:m.k.inos.length<=101
 tree:JJ m.k.inos
 ids:∀x∈m.k.inos,x.id<=1000000
 used:AU m.cs<=200000
structure He (KR2:World->Nat->Nat->Addr->PK->AP->Prop) (m:Nm) (p:AP) (w:World):Prop where
 prog:KR2 w m.B m.C m.kp m.P p
 can:Can p
 row:AG w m.wb 55 (Iz (.pointer (some m.kp)) (pq m.kb 0))
 ref:∃g cap aa ca,Td w m.C m.base m.kb g cap m.gp m.cp m.k p aa m.ga ca
 cont:Ch w m.k.inos m.cs
theorem Ch.spares {w w':World} {xs:List Ino} {cs:List (List Int)} (h:Ch w xs cs) (hs:∀(x:Ino),x∈xs->∀(q:Nat) (n c:Nat) (vs:List Value),x.bytes= .slice (some (pK q 0)) n c->AG w q 5 vs->AG w' q 5 vs):Ch w' xs cs:=
 ⟨h.1,fun i x c hx hc=>by
  rcases h.2 i x c hx hc with h1|⟨h1,q,h2,h3⟩
  ·exact .inl h1
  ·exact .inr ⟨h1,q,h2,hs x (zv hx) q _ _ _ h2 h3⟩⟩
theorem Gu.below {w w':World} (h:Below w.heap.size w w'):Gu w w':=fun b vs hv=>hv.below h hv.lt
theorem GT {w w':World} {b:Nat} {t:TypeId} {vs:List Value} (h:AG w b t vs) (hb:w'.heap[b]? =w.heap[b]?):AG w' b t vs:=by
 unfold AG at h ⊢
 rw [hb];exact h
theorem C6.below {N wb:Nat} {w w':World} (h:Below w.heap.size w w'):C6 N wb w w':=⟨fun b t vs _ _ hv=>hv.below h hv.lt,fun hN=>h.mono hN⟩
theorem C6.trans {N wb:Nat} {w w' w'':World} (h:C6 N wb w w') (h':C6 N wb w' w''):C6 N wb w w'':=⟨fun b t vs ht hn hv=>h'.1 b t vs ht hn (h.1 b t vs ht hn hv),fun hN=>(h.2 hN).trans (h'.2 (zh hN (h.2 hN).size))⟩
section
variable {KR2 : World -> Nat -> Nat -> Addr -> PK -> AP -> Prop} (api : EK KR2)
theorem He.below {m:Nm} {p:AP} {w w':World} (h:He KR2 m p w) (api:EK KR2) (ok:m.Ok) (hb:Below w.heap.size w w'):He KR2 m p w':=by
 have hn:=ok.nums
 have hl:=h.row.lt
 obtain ⟨g,cap,aa,ca,hr⟩:=h.ref
 exact ⟨api.stable _ _ _ _ _ _ _ h.prog hb.size (fun b hbC=>hb.block b (by omega)),h.can,h.row.below hb hl,⟨g,cap,aa,ca,hr.keeps (B:=0) (Cl.ofBelow hb)⟩,h.cont.spares (fun x _ q n c vs _ hv=>hv.below hb hv.lt)⟩
theorem He.set {m:Nm} {p:AP} {w:World} {x:Nat} {vs:List Value} (h:He KR2 m p w) (api:EK KR2) (ok:m.Ok) (hx:AG w x 36 vs) (hwx:m.wb<x) (j:Nat) (v:Value):He KR2 m p (w.setCell (pK x j) v):=by
 have hn:=ok.nums
 have hl:=h.row.lt
 obtain ⟨g,cap,aa,ca,hr⟩:=h.ref
 have hg:=AS (zk w (some x)) j v
 have hgx:g≠x:=fun e=>by
  have:=Bv hr.ker.2
  exact B8 hx this (by decide) (by show some x=some g;rw [e])
 have hk:Cl w (w.setCell (pK x j) v) x (x+1):=⟨hg.os,hg.tape,hg.output,hg.size,fun b hb hn=>hg.block b hb (by simp;omega)⟩
 refine ⟨api.stable _ _ _ _ _ _ _ h.prog hg.size (fun b hbC=>hg.block b (by omega) (by simp;omega)),h.can,h.row.set_other (by omega) j v,⟨g,cap,aa,ca,?_⟩,h.cont.spares (fun y _ q n c vs2 _ hv=> ?_)⟩
 ·have hgl:=hr.ker.2.lt g rfl
  have hpl:m.gp<w.heap.size:=by omega
  refine ⟨⟨GT hr.ker.1 (hg.block _ hr.ker.1.lt (by simp;omega)),LJ hr.ker.2 (hg.block g hgl.2 (by simpa using hgx))⟩,hr.kbl,zh hr.bs hg.size,hr.pv,hr.ov,hr.cv,hr.cnt,hr.linked,hr.bytes,?_,hr.ok,hr.ne,za hr.gl hg.size,hr.low⟩
  have hc:∀b i u,b≠x->w.cell? (pK b i)=some u->(w.setCell (pK x j) v).cell? (pK b i)=some u:=fun b i u hbx hu=>hg.cell hu (by simpa using hbx)
  have hf:∀b i,b<w.heap.size->b≠x->w.frozen? (pK b i)=false->(w.setCell (pK x j) v).frozen? (pK b i)=false:=fun b i hbl hbx hv=>by unfold World.frozen? at hv ⊢;rw [hg.block b hbl (by simpa using hbx)];exact hv
  have hq:=hr.proc
  have n1:m.gp≠x:=by omega
  have n2:m.ga≠x:=by omega
  refine ⟨fun j v hv=>hc _ _ _ n1 (hq.row j v hv),hq.aa,fun i q hi=> ?_,fun i=>hf _ _ hr.gl n2 (hq.fz i),fun i=>hf _ _ hpl n1 (hq.fp i),hq.apart,hq.regs⟩
  obtain ⟨a,b,c⟩:=hq.pages i q hi
  exact ⟨hc _ _ _ n2 a,hc _ _ _ n2 b,fun j v hv=>hc _ _ _ n2 (c j v hv)⟩
 ·have hqx:q≠x:=fun e=>by
   subst e
   unfold AG at hx hv
   rw [hx] at hv
   simp at hv
  exact GT hv (hg.block q hv.lt (by simpa using hqx))
end
end
end Go.Proofs.YtdchgbmliojoiaaGreatDoor
