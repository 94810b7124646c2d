import Derived.Test.YtdchgbmliojoiaaGreatDoorG11
import Derived.Test.YtdchgbmliojoiaaGreatDoorG10
set_option maxRecDepth 100000
set_option maxHeartbeats 2000000
set_option linter.unusedVariables false
set_option linter.unusedSimpArgs false
namespace Go.Proofs.YtdchgbmliojoiaaGreatDoor
open Go Go.RowKit
theorem LY (old:Value) (w:World):(Instr.alloc 188 true old).run Tryz.prog w= .ok (pq w.heap.size 0) (w.alloc (.cells Ah.toArray 188)):=by
 have h:=Tryz.zeroValue188 w
 rw [Mj] at h
 generalize Ah=Z at h
 simp [Instr.alloc,h,newVar,newRow,Value.cells]
theorem XC (old:Value) (w:World):(Instr.alloc 166 true old).run Tryz.prog w= .ok (pq w.heap.size 0) (w.alloc (.cells (Av 0 0 Aq).toArray 166)):=by kernel_rfl
theorem WJ:(Tryz.prog.info? 166).map (·.size)=some 258:=by kernel_rfl
theorem Rt:(Tryz.prog.info? 136).map (·.size)=some 256:=by kernel_rfl
theorem XE:(Tryz.prog.info? 185).map (·.size)=some 257:=by kernel_rfl
theorem JD:(Tryz.prog.info? 188).map (·.size)=some 65792:=by
 have h:=Tryz.sizeOf188 default
 cases hi:Tryz.prog.info? 188 with
 |none=>simp [sizeOf,typeInfo,hi] at h
 |some i=>simp [sizeOf,typeInfo,hi] at h;simp [h]
theorem LZ (a b:Int) (L:List Int):∀v∈Av a b L,v.oneCell'=true:=by
 intro v hv
 simp only [Av,List.mem_cons] at hv
 rcases hv with rfl|rfl|hv
 ·rfl
 ·rfl
 ·obtain ⟨x,_,rfl⟩:=yw.1 hv
  rfl
theorem Dr (a b:Int) (L:List Int):(Av a b L).length=L.length+2:=by simp [Av,AM]
theorem JV (p:Pg):∀v∈Bw p,v.oneCell'=true:=by
 intro v hv
 simp only [Bw,List.mem_cons] at hv
 rcases hv with rfl|hv
 ·rfl
 ·obtain ⟨x,_,rfl⟩:=yw.1 hv
  rfl
theorem OZ (PS:List Pg) (j:Nat):∀v∈Cv PS j,v.oneCell'=true:=by
 intro v hv
 unfold Cv at hv
 split at hv
 ·exact JV _ v hv
 ·rw [List.eq_of_mem_replicate hv];rfl
theorem Hj (PS:List Pg):∀v∈Af PS,v.oneCell'=true:=by
 intro v hv
 obtain ⟨j,_,hj⟩:=List.mem_flatMap.1 hv
 exact OZ PS j v hj
theorem Fg {P:Program} {fn:Func} {tmps:Array Value} {a:Tmp} {t:TypeId} (h:fn.results=#[.cell a t]) {b:Nat} (ht:tmps.getD a undef= pq b 0) {v:Value} {w:World} (hl:(loadVar t (pK b 0)).run P w= .ok v w):(results fn tmps).run P w= .ok v w:=by
 unfold results
 rw [h]
 have ht':tmps[a]?.getD undef= pq b 0:=by simpa using ht
 simp [ht',asAddr,hl]
theorem Ca:Ah.length=65792:=by rw [<-JA];exact BD (fun p hp=>by simp at hp)
theorem XF {w:World} {g k:Nat} {PS:List Pg} {p:Pg} (h:Gy w g PS) (hp:PS[k]? =some p):w.rangeAt g (k*258) (Av p.num p.perm p.bytes):=by
 obtain ⟨h0,h1,h2⟩:=h k p hp
 intro j v hv
 unfold Av at hv
 cases j with
 |zero=>obtain rfl:=zr hv;rw [Nat.add_zero];exact h0
 |succ j=>
  cases j with
  |zero=>obtain rfl:=zr hv;exact h1
  |succ j=>
   have:=h2 j v hv
   rw [show k*258+(j+1+1)=k*258+2+j by omega]
   exact this
theorem Gy.below {w w':World} {g:Nat} {PS:List Pg} (h:Gy w g PS) (hb:Below w.heap.size w w') (hg:0<PS.length->g<w.heap.size):Gy w' g PS:=by
 intro i p hp
 have hl:0<PS.length:=by have:=(zy.1 hp).1;omega
 obtain ⟨h0,h1,h2⟩:=h i p hp
 refine ⟨by rw [hb.cell (p:=(pK g (i*258))) (hg hl)];exact h0,by rw [hb.cell (p:=(pK g (i*258+1))) (hg hl)];exact h1,fun j v hv=> ?_⟩
 rw [hb.cell (p:=(pK g (i*258+2+j))) (hg hl)]
 exact h2 j v hv
theorem QL (a:Option Addr) (g cap:Nat) (PS:List Pg) (w:World) (hok:As PS) (ha:0<PS.length->a=some (pK g 0)/\g<w.heap.size) (hp:Gy w g PS) (hn:PS.length<=256):
  Calls Tryz.prog 76 #[.slice a PS.length cap] w fun e w'=>e= .returned (.agg (Af PS).toArray)/\Below w.heap.size w w':=by
 have HP:=AC hp
 have HOK:=AC hok
 have HA:=AC ha
 obtain ⟨W1,hW1⟩:∃W1,W1=w.alloc (.cells Ah.toArray 188):=⟨_,rfl⟩
 obtain ⟨W2,hW2⟩:∃W2,W2=W1.alloc (.cells Ah.toArray 188):=⟨_,rfl⟩
 have hs1:W1.heap.size=w.heap.size+1:=by rw [hW1];simp
 have h1:AG W1 w.heap.size 188 Ah:=by rw [hW1];exact AG.new w 188 Ah
 have h2:AG W2 (w.heap.size+1) 188 (Af (PS.take 0)):=by rw [List.take_zero,JA,<-hs1,hW2];exact AG.new W1 188 Ah
 have h3:AG W2 w.heap.size 188 Ah:=by rw [hW2];exact h1.alloc _
 have hb2:Below w.heap.size w W2:=by rw [hW2,hW1];exact ((zw _ _).alloc (zx _) _).alloc (by simp) _
 have HW1:=AC hW1
 have HW2:=AC hW2
 have HS1:=AC hs1
 have H2:=AC h2
 have H3:=AC h3
 have HB2:=AC hb2
 clear hp hok ha hW1 hW2 hs1 h1 h2 h3 hb2
 go_enter Tryz.func76,Tryz.ntmps76
 go_upto_region 1 with (refine CA rfl 188 rfl Ah.toArray LY ?_)
 rw [<-AB HW1]
 go_upto_region 2 with (refine CA rfl 188 rfl Ah.toArray LY ?_)
 rw [<-AB HW2,AB HS1]
 go_wp2
 go_loopw [8] (fun i wr=>∃k:Nat,k<=PS.length/\i= .int .i64 k/\Hid (AG wr (w.heap.size+1) 188 (Af (PS.take k)))/\Hid (AG wr w.heap.size 188 Ah)/\Hid (Below w.heap.size w wr)) (fun i _=>PS.length-(intOf i).toNat)
 case atStart=>exact ⟨0,by omega,rfl,H2,H3,HB2⟩
 case round=>
  obtain ⟨k,hk,rfl,HR,HZ,HB⟩:=hrel
  by_cases hlt:k<PS.length
  ·obtain ⟨p,hpk⟩:∃p,PS[k]? =some p:=⟨_,zz hlt⟩
   obtain ⟨rfl,hgl⟩:=AB HA (by omega)
   have hrg:=XF ((AB HP).below (AB HB) (fun _=>hgl)) hpk
   have hpo:=(AB HOK).each p (zv hpk)
   have hk0:(0:Int)<=(k:Int):=by omega
   have hk1:(k:Int)<(PS.length:Int):=by omega
   obtain ⟨nu,hnu⟩:∃nu:Nat,p.num=nu:=⟨p.num.toNat,by omega⟩
   have hbl:=hpo.2.2.2.2
   have hnu1:(nu:Int)<256:=by omega
   have hnu0:(0:Int)<=(nu:Int):=by omega
   have hnun:nu<256:=by omega
   have htk:PS.take (k+1)=PS.take k++[p]:=by rw [List.take_add_one,hpk];rfl
   have hstep:splice (Af (PS.take k)) (nu*257) (Bw p)=Af (PS.take (k+1)):=by
    rw [htk]
    refine UL ?_ nu hnu
    rw [<-htk]
    have:PS=PS.take (k+1)++PS.drop (k+1):=(List.take_append_drop _ _).symm
    have ho:=AB HOK
    rw [this] at ho
    exact ho.pre
   have hrl:(Af (PS.take k)).length=65792:=BD (fun q hq=>((AB HOK).each q (List.mem_of_mem_take hq)).2.2.2.2)
   have hpc:Bw ⟨0,p.perm,p.bytes⟩=Bw p:=rfl
   have HST:=AC hstep
   have HRG:=AC hrg
   have HPB:=AC (show ∀w,(Instr.build 185 #[(0,.int .u8 p.perm),(1,.agg (AJ p.bytes).toArray)]).run Tryz.prog w= .ok (.agg (Bw p).toArray) w from UO p.perm p.bytes hbl)
   have HLN:=AC (And.intro hbl hrl)
   have HPM:=AC hpo
   have HGL:=AC hgl
   obtain ⟨pn,hpn⟩:∃pn,pn=p.num:=⟨_,rfl⟩
   obtain ⟨pp,hpp⟩:∃pp,pp=p.perm:=⟨_,rfl⟩
   obtain ⟨pb,hpb⟩:∃pb,pb=p.bytes:=⟨_,rfl⟩
   have HNM:=AC (And.intro hpn (And.intro hpp hpb))
   clear hstep hrg htk hpc hpo hgl hrl hbl hpk hpn hpp hpb
   go_upto_region 5 with (first
    |(refine wpList_load_mid rfl 166 _ rfl g (k*258) (by rfl) (Av p.num p.perm p.bytes) _ (AB HRG) Tryz.underlying166 rfl (by rw [WJ,Dr,(AB HLN).1]) ?_)
    |(refine CA rfl 166 rfl (Av 0 0 Aq).toArray XC ?_)
    |(refine CK rfl 166 _ _ rfl wr.heap.size (Av p.num p.perm p.bytes) (by rfl) (by rfl) 166 (Av 0 0 Aq) (AG.new wr 166 _) (by rw [WJ,Dr,(AB HLN).1]) (by rw [Dr,Dr,(AB HLN).1,Ak]) (LZ _ _ _) ?_;intro w5 H5 G5))
   have hb5:Below w.heap.size w w5:=by
    have h1:=(AB HB).alloc (AB HB).size (.cells (Av 0 0 Aq).toArray 166)
    have hs:=(AB HB).size
    exact h1.trans (Ag G5 hs (zh hs (by simp)))
   have hs:=(AB HB).size
   have hw2:w.heap.size+1<wr.heap.size:=(AB HR).lt
   have n5:=AB H5
   rw [hnu] at n5
   have c0:w5.cell? (pK wr.heap.size 0)=some (.int .i64 nu):=n5.cell rfl
   have c1:w5.cell? (pK wr.heap.size 1)=some (.int .u8 p.perm):=n5.cell rfl
   have hbr:w5.rangeAt wr.heap.size 2 (AJ p.bytes):=fun j v hv=>n5.cell (by rw [show 2+j=j+1+1 by omega];exact hv)
   have r5:AG w5 (w.heap.size+1) 188 (Af (PS.take k)):=((AB HR).alloc _).grown G5 (by simp;omega)
   have z5:AG w5 w.heap.size 188 Ah:=((AB HZ).alloc _).grown G5 (by simp;omega)
   have HBR:=AC hbr
   have HR5:=AC r5
   have HZ5:=AC z5
   have HB5:=AC hb5
   obtain ⟨X,hX⟩:∃X,X=wr.heap.size:=⟨_,rfl⟩
   rw [<-hX] at c0 c1 HBR ⊢
   have HX:=AC hX
   clear n5 hbr r5 z5 hb5 hX G5 H5 hnu hs hw2
   have hpf:=XB p (AB HLN).1
   have hpl:(AJ p.bytes).length=256:=by rw [AM];exact (AB HLN).1
   go_upto_region 6 with (first
    |(refine wpList_load_mid rfl 136 _ rfl X 2 (by rfl) (AJ p.bytes) _ (AB HBR) Tryz.underlying136 rfl (by rw [Rt,AM,(AB HLN).1]) ?_)
    |(refine Et rfl 185 (.tmp 20) (.tmp 18) rfl (w.heap.size+1) (nu*257) (Bw p) (by rfl) (by rfl) 188 (Af (PS.take k)) (AB HR5) (by rw [XE,EM (AB HLN).1]) (by rw [EM (AB HLN).1,(AB HLN).2];omega) (JV p) ?_;intro w6 H6 G6))
   have HF:=AC (show AG w6 (w.heap.size+1) 188 (Af (PS.take (k+1)))/\AG w6 w.heap.size 188 Ah/\Below w.heap.size w w6 from
    ⟨by rw [<-AB HST];exact AB H6,(AB HZ5).grown (AB G6) (by simp),(AB HB5).trans (Ag (AB G6) (by omega) (AB HB5).size)⟩)
   clear H6 G6 c0 c1 HBR HR5 HZ5 HB5 HX HPB HST HRG
   go_wp2
   exact ⟨⟨k+1,by omega,by simp,AC (AB HF).1,AC (AB HF).2.1,AC (AB HF).2.2⟩,by simp only [intOf];omega⟩
  ·have hke:k=PS.length:=by omega
   subst hke
   rw [List.take_length] at HR
   have HL:=AC (show (Af PS).length=65792 from BD (fun q hq=>((AB HOK).each q hq).2.2.2.2))
   go_wp2_with (first
    |(refine wpList_load_mid rfl 188 _ rfl (w.heap.size+1) 0 (by rfl) (Af PS) _ (AB HR).range Tryz.underlying188 rfl (by rw [JD,AB HL]) ?_)
    |(refine CK rfl 188 _ _ rfl w.heap.size (Af PS) (by rfl) (by rfl) 188 Ah (AB HZ) (by rw [JD,AB HL]) (by rw [Ca,AB HL]) (Hj PS) ?_;intro w6 H6 G6))
   have HF:=AC (show Below w.heap.size w w6 from (AB HB).trans (Ag G6 (zx _) (AB HB).size))
   have h6:=AB H6
   exact ⟨rfl,.agg (Af PS).toArray,Fg (by rfl) (by rfl) (run_loadVar_mid w6 w.heap.size 0 188 (Af PS) _ h6.range Tryz.underlying188 rfl (by rw [JD,AB HL])),rfl,AB HF⟩
def C0 (op:Int):Nat:=if 16<=op then 1 else 8
def F6 (op:Int):Int:=if op=15\/op=17 then 2 else 4
def BR (p:AP) (im:Int) (b:Nat):Int:=IntKind.u64.wrap (p.R.getD b 0+IntKind.u64.wrap im)
def FA (p:AP) (op im:Int) (a b:Nat):Option AP:=
 if Bs p.PS (BR p im b) (C0 op) (F6 op)=true then
  (if F6 op=4 then some {p with R:=p.R.set a (AW (Bd p.PS (BR p im b) (C0 op)) 0 (C0 op))}
   else some {p with PS:=Bu p.PS (BR p im b) ((A8 (p.R.getD a 0)).take (C0 op)) (C0 op)})
 else none
theorem Bl (x:Int):0<=IntKind.u64.wrap x/\IntKind.u64.wrap x<=18446744073709551615:=by
 rw [ym]
 omega
theorem TT:∀args w,(callFunc 102 args).run Tryz.prog w= .ok (.enter 102 args) w:=enters_of Tryz.func102 (by kernel_rfl) rfl
theorem YI:∀args w,(callFunc 137 args).run Tryz.prog w= .ok (.enter 137 args) w:=enters_of Tryz.func137 (by kernel_rfl) rfl
theorem YJ:∀args w,(callFunc 146 args).run Tryz.prog w= .ok (.enter 146 args) w:=enters_of Tryz.func146 (by kernel_rfl) rfl
def Gg (p:AP) (op im:Int) (a b gp o:Nat) (aa:Option Addr) (ga ca:Nat) (w:World) (e:Ending) (w':World):Prop:=
 match FA p op im a b with
 |none=>e= .returned (.bool false)/\Below w.heap.size w w'
 |some p'=>e= .returned (.bool true)/\Ep w' gp o p' aa ga ca/\w.heap.size<=w'.heap.size/\(w'.os=w.os/\w'.tape=w.tape/\w'.output=w.output)/\∀k,k<w.heap.size->k≠gp->k≠ga->w'.heap[k]? =w.heap[k]?
theorem VF (p:AP) (op im:Int) (a b gp o:Nat) (aa:Option Addr) (ga ca:Nat) (w:World) (h:Ep w gp o p aa ga ca) (hgl:ga<w.heap.size) (hop:14<=op/\op<=17) (ha:a<16) (hb:b<16) (hr:∀r,0<=p.R.getD r 0/\p.R.getD r 0<=18446744073709551615) (hn:p.PS.length<=100000) (hok:∀q∈p.PS,q.bytes.length=256/\AY q.bytes):
  Calls Tryz.prog 105 #[pq gp o,.agg #[.int .i64 op,.int .i64 a,.int .i64 b,.int .i64 im]] w (Gg p op im a b gp o aa ga ca w):=by
 obtain ⟨W0,hW0⟩:∃W0,W0=w.alloc (Obj.cells #[.int .i64 op,.int .i64 a,.int .i64 b,.int .i64 im] 89):=⟨_,rfl⟩
 have hb0:Below w.heap.size w W0:=by rw [hW0];exact (zw _ _).alloc (zx _) _
 have hi0:AG W0 w.heap.size 89 [.int .i64 op,.int .i64 a,.int .i64 b,.int .i64 im]:=by rw [hW0];exact AG.new w 89 _
 have hp0:=h.below hb0 hgl
 obtain ⟨NI,hNI⟩:∃NI,NI=w.heap.size:=⟨_,rfl⟩
 obtain ⟨RB,hRB⟩:∃RB,RB=p.R.getD b 0:=⟨_,rfl⟩
 rw [<-hNI] at hi0
 have c0:W0.cell? (pK NI 0)=some (.int .i64 op):=hi0.cell rfl
 have c2:W0.cell? (pK NI 2)=some (.int .i64 b):=hi0.cell rfl
 have c3:W0.cell? (pK NI 3)=some (.int .i64 im):=hi0.cell rfl
 have cr:W0.cell? (pK gp (o+6+b))=some (.int .u64 RB):=by rw [hRB,show o+6+b=o+(6+b) by omega];exact hp0.reg hb
 have hb1:(0:Int)<=(b:Int):=by omega
 have hb2:(b:Int)<16:=by omega
 have HW0:=AC hW0
 have HB0:=AC hb0
 have HI0:=AC hi0
 have HP0:=AC hp0
 have HP:=AC h
 have HOP:=AC hop
 have HR:=AC hr
 have HOK:=AC hok
 have HN:=AC hNI
 have HRB:=AC hRB
 clear hW0 hb0 hi0 hp0 h hr hok hRB
 go_enter Tryz.func105,Tryz.ntmps105
 go_upto_region 1 with fail
 rw [<-AB HW0,<-hNI]
 clear hNI
 go_quiet (fail)
 obtain ⟨W1,hW1⟩:∃W1,W1=W0.drewN nq:=⟨_,rfl⟩
 obtain ⟨AD,hAD⟩:∃AD,AD=IntKind.u64.wrap (RB+IntKind.u64.wrap im):=⟨_,rfl⟩
 obtain ⟨NN,hNN⟩:∃NN:Nat,NN=C0 op:=⟨_,rfl⟩
 obtain ⟨PM,hPM⟩:∃PM:Int,PM=F6 op:=⟨_,rfl⟩
 rw [<-hW1,<-hAD]
 have hh1:W1.heap=W0.heap:=by rw [hW1];rfl
 have hb01:Below W0.heap.size W0 W1:=by rw [hW1];exact ⟨rfl,rfl,rfl,zx _,fun _ _=>rfl⟩
 have HB1:=AC ((AB HB0).trans (hb01.mono (AB HB0).size))
 have hi1:=(AB HI0).heap (W':=W1) hh1
 have HI1:=AC hi1
 have HP1:=AC ((AB HP0).below hb01 (by have:=(AB HB0).size;omega))
 have HAD:=AC (show AD=BR p im b by unfold BR;rw [<-AB HRB];exact hAD)
 have HNN:=AC hNN
 have HPM:=AC hPM
 have d0:W1.cell? (pK NI 0)=some (.int .i64 op):=hi1.cell rfl
 clear c0 c2 c3 cr hW1 hAD hh1 hb01 hi1 hNN hPM HI0 HP0 HW0 hop
 go_upto_if 24 with fail
 go_cut [6] (fun nv wc=>nv= .int .i64 (NN:Int)/\W1=wc)
 case first=>
  by_cases t:16<=op
  ·have e1:=AC (show NN=1 by rw [AB HNN];unfold C0;rw [if_pos t])
   go_wp2
   go_meet
   case rel=>exact ⟨by rw [AB e1];rfl,rfl⟩
  ·have e1:=AC (show NN=8 by rw [AB HNN];unfold C0;rw [if_neg t])
   go_wp2
   go_meet
   case rel=>exact ⟨by rw [AB e1];rfl,rfl⟩
 case rest=>
  obtain ⟨rfl,rfl⟩:=hcut
  have had:=AB HAD
  have hA0:0<=AD/\AD<=18446744073709551615:=by rw [had];unfold BR;exact Bl _
  have hNl:1<=NN/\NN<=8:=by rw [AB HNN];unfold C0;split<;>omega
  have HM:=AC (WZ aa ga ca p.PS AD (NN:Int) PM W1 (AB HP1).aa (AB HP1).pages hn hA0.1 hA0.2 (by omega) (by omega))
  have p22:W1.cell? (pK gp (o+22))=some (.slice aa p.PS.length ca):=(AB HP1).row 22 _ rfl
  clear had
  rcases (show (op=15\/op=17)\/¬(op=15\/op=17) from Classical.em _) with hst|hld
  ·have hpm:PM=2:=by rw [AB HPM];unfold F6;rw [if_pos hst]
   subst hpm
   rcases hst with rfl|rfl
   all_goals (
    go_wp2_with fail
    refine (AB HM).mono ?_
    rintro e w2 ⟨rfl,hh2,hb2⟩
    obtain ⟨mb,hmb⟩:∃mb,mb=Bs p.PS AD (NN:Int) 2:=⟨_,rfl⟩
    have HB2:=AC ((AB HB1).trans (hb2.mono (AB HB1).size))
    have HI2:=AC ((AB HI1).below hb2 (AB HI1).lt)
    have hgl1:ga<W1.heap.size:=by have:=(AB HB1).size;omega
    have HP2:=AC ((AB HP1).below hb2 hgl1)
    have hgl2:ga<w2.heap.size:=by have:=hb2.size;omega
    rw [<-hmb]
    have HMB:=AC hmb
    clear hh2 hb2 hmb HM p22 d0
    have HMO:=AC (show FA p _ im a b=if mb=true then some {p with PS:=Bu p.PS AD ((A8 (p.R.getD a 0)).take NN) NN} else none from by
     unfold FA
     rw [<-AB HAD,<-AB HNN,<-AB HPM,<-AB HMB]
     rfl)
    cases mb with
    |false=>
     go_wp2
     go_ret
     unfold Gg
     rw [AB HMO]
     exact ⟨rfl,AB HB2⟩
    |true=>
     have hmk:(Instr.makeSlice 32 (.int .i64 8) (.int .i64 8)).run Tryz.prog w2= .ok (.slice (some (pK w2.heap.size 0)) 8 8) (w2.alloc (.cells (Bx 8) 5)):=by
      have:=run_make_row' (P:=Tryz.prog) 32 5 (.int .u8 0) 1 Tryz.underlying32 Mt rfl .i64 .i64 8 (by decide) (by decide) w2
      rwa [GF] at this
     obtain ⟨W5,hW5⟩:∃W5,W5=w2.alloc (.cells (Bx 8) 5):=⟨_,rfl⟩
     have hb5:Below w2.heap.size w2 W5:=by rw [hW5];exact (zw _ _).alloc (zx _) _
     have hr5:AG W5 w2.heap.size 5 (AJ (List.replicate 8 0)):=by rw [hW5];exact AG.new w2 5 _
     have hI5:=(AB HI2).below hb5 (AB HI2).lt
     have hp5:=(AB HP2).below hb5 hgl2
     obtain ⟨RA,hRA⟩:∃RA,RA=p.R.getD a 0:=⟨_,rfl⟩
     obtain ⟨QB,hQB⟩:∃QB,QB=w2.heap.size:=⟨_,rfl⟩
     rw [<-hQB] at hmk hr5
     have hra0:0<=RA:=by rw [hRA];exact (AB HR a).1
     have hbd5:Below W5.heap.size W5 W5.drew:=⟨rfl,rfl,rfl,zx _,fun _ _=>rfl⟩
     have HPU:=AC (QH QB 0 8 8 5 (List.replicate 8 0) 0 RA W5.drew (hr5.heap rfl) (by omega) (by simp) (by simp) hra0)
     rw [show splice (List.replicate 8 (0:Int)) (0+0) (A8 RA)=A8 RA from Mg _ _ (by rw [Bn];rfl)] at HPU
     have hS5:W5.cell? (pK NI 1)=some (.int .i64 a)/\W5.cell? (pK gp (o+6+a))=some (.int .u64 RA):=⟨hI5.cell rfl,by rw [hRA,show o+6+a=o+(6+a) by omega];exact hp5.reg ha⟩
     have ha0:(0:Int)<=(a:Int):=by omega
     have ha1:(a:Int)<16:=by omega
     have RL:=AC (show ∀w':World,(w'.cell? (pK NI 1)=some (.int .i64 a)/\w'.cell? (pK gp (o+6+a))=some (.int .u64 RA))->(Instr.loadAt 3 (pq NI 1)).run Tryz.prog w'= .ok (.int .i64 a) w' from fun w' c=>by
      have c:=c.1
      clear hmk hb5 hr5 hI5 hp5 HMO HPU hS5 hbd5
      go_simp)
     have RG:=AC (show ∀w':World,(w'.cell? (pK NI 1)=some (.int .i64 a)/\w'.cell? (pK gp (o+6+a))=some (.int .u64 RA))->(Instr.loadAt 75 (pq gp (o+6+a))).run Tryz.prog w'= .ok (.int .u64 RA) w' from fun w' c=>by
      have c:=c.2
      clear hmk hb5 hr5 hI5 hp5 HMO HPU hS5 RL hbd5
      go_simp)
     have RI:=AC (show ∀w':World,(Instr.indexAt 76 (pq gp (o+6)) (.int .i64 (a:Int))).run Tryz.prog w'= .ok (pq gp (o+6+a)) w' from fun w'=>by
      clear hmk hb5 hr5 hI5 hp5 HMO HPU hS5 RL RG hbd5
      go_simp)
     have HS5:=AC hS5
     have HB25:=AC hb5
     have HP5:=AC hp5
     have HQB:=AC hQB
     have HRA:=AC hRA
     have HW5:=AC (show W5=w2.alloc (.cells (Bx 8) 5) from hW5)
     rw [<-hW5] at hmk
     have hNl2:NI<w2.heap.size:=(AB HI2).lt
     have hgp2:gp<w2.heap.size:=zu w2 _ ((AB HP2).row 0 _ rfl)
     clear hb5 hr5 hI5 hp5 hS5 hW5 hbd5 hRA hra0 hQB
     go_upto_region 16 with fail
     clear hmk
     refine BA ?_
     intro A hA
     have e0:A.eval (.tmp 0)= pq gp o:=by rw [hA];rfl
     have e3:A.eval (.tmp 3)= pq NI 0:=by rw [hA];rfl
     have e10:A.eval (.tmp 10)= .slice (some (pK QB 0)) 8 8:=by rw [hA];rfl
     have esz:A.tmps.size=79:=by rw [hA];rfl
     have HAC:=AC hA
     clear hA
     refine wp_region_held_drew (S:=fun w'=>w'.cell? (pK NI 1)=some (.int .i64 a)/\w'.cell? (pK gp (o+6+a))=some (.int .u64 RA)) (by kernel_rfl) (AB HS5) (fun hS=> ?_)
     refine tk 0 (some 61) rfl rfl (by kernel_rfl) (fun _ _ _=>id) (AK rfl _ rfl (.slice (some (pK QB 0)) 8 8) (by simp [AF,AE,esz,e0,e3,e10,AI])) hS ?_
     refine tk 1 (some 62) rfl rfl (by kernel_rfl) (fun _ _ _=>id) (AK rfl _ rfl (pq gp o) (by simp [AF,AE,esz,e0,e3,e10,AI])) hS ?_
     refine tk 2 (some 63) rfl rfl (by kernel_rfl) (fun _ _ _=>id) (AO rfl _ _ _ rfl (pq NI 0) (by simp [AF,AE,esz,e0,e3,e10,AI]) (pq NI 1) (fun w'=>by go_simp)) hS ?_
     refine tk 3 (some 64) rfl rfl (by kernel_rfl) (fun _ _ _=>id) (AQ rfl _ _ rfl (pK NI 1) (by simp [AF,AE,esz,e0,e3,e10,AI]) (.int .i64 a) (AB RL)) hS ?_
     refine tk 4 (some 65) rfl rfl (by kernel_rfl) (fun _ _ _=>id) (AX rfl _ rfl (pK gp o) (by simp [AF,AE,esz,e0,e3,e10,AI])) hS ?_
     refine tk 5 (some 66) rfl rfl (by kernel_rfl) (fun _ _ _=>id) (AO rfl _ _ _ rfl (pq gp o) (by simp [AF,AE,esz,e0,e3,e10,AI]) (pq gp (o+6)) (fun w'=>by go_simp)) hS ?_
     refine tk 6 (some 67) rfl rfl (by kernel_rfl) (fun _ _ _=>id) (BM rfl _ _ _ rfl (pq gp (o+6)) (.int .i64 (a:Int)) (by simp [AF,AE,esz,e0,e3,e10,AI]) (by simp [AF,AE,esz,e0,e3,e10,AI]) (pq gp (o+6+a)) (AB RI)) hS ?_
     refine tk 7 (some 68) rfl rfl (by kernel_rfl) (fun _ _ _=>id) (AQ rfl _ _ rfl (pK gp (o+6+a)) (by simp [AF,AE,esz,e0,e3,e10,AI]) (.int .u64 RA) (AB RG)) hS ?_
     refine rdy [8] (by kernel_rfl) (AllReadyH.cons rfl (fun K hK=> ?_) AllReadyH.nil)
     refine Bt rfl 137 _ _ rfl #[.slice (some (pK QB 0)) 8 8,.int .i64 0,.int .u64 RA] (by simp [AF,AE,esz,e0,e3,e10,AI]) YI _ (fun e w' h=>⟨_,h.1⟩) (AB HPU) (some 69) rfl ?_
     rintro r w6 ⟨hr6,hrow6,hg6⟩
     have hr6:r= .tuple #[]:=by injection hr6
     subst hr6
     have hg6:W5.grownBy w6 (some QB):=⟨hg6.os,hg6.tape,hg6.output,hg6.size,hg6.block⟩
     have hq2:=AB HQB
     have hS6:w6.cell? (pK NI 1)=some (.int .i64 a)/\w6.cell? (pK gp (o+6+a))=some (.int .u64 RA):=⟨hg6.cell (AB HS5).1 (by simp;omega),hg6.cell (AB HS5).2 (by simp;omega)⟩
     refine hK.out _ _ hS6 (fun _=> ?_)
     clear hK K
     refine wpAnyH_done (by kernel_rfl) ?_ _
     rw [AB HAC]
     simp only [Act.put,zm,zi,zj]
     have hb26:Below w2.heap.size w2 w6:=(AB HB25).grown hg6 (AB HB25).size (by intro k hk;simp at hk;omega)
     have HB6:=AC ((AB HB2).trans (hb26.mono (AB HB2).size))
     have hp6:=(AB HP2).below hb26 hgl2
     have p22:w6.cell? (pK gp (o+22))=some (.slice aa p.PS.length ca):=hp6.row 22 _ rfl
     have HP6:=AC hp6
     have HR6:=AC hrow6
     clear hS6 hb26 hp6 hrow6 hg6 HAC e0 e3 e10 esz hS HPU RL RG RI HS5
     have hbd6:Below w6.heap.size w6 w6.drew:=⟨rfl,rfl,rfl,zx _,fun _ _=>rfl⟩
     have hgl6:ga<w6.heap.size:=by have:=(AB HB6).size;omega
     have hpd:=(AB HP6).below hbd6 hgl6
     obtain ⟨L,hL⟩:∃L,L=(A8 RA).take NN:=⟨_,rfl⟩
     have hLl:L.length=NN:=by rw [hL,yv,Bn];omega
     have hga2:ga≠QB:=by rw [AB HQB];omega
     have hv6:BC w6.drew QB 0 L:=fun j hj=>by
      have h1:=(AB HR6).cell (j:=j) (v:= .int .u8 ((A8 RA).getD j 0)) (AT _ _ (by rw [Bn];omega))
      rw [zq]
      rw [hL,zl,List.getElem?_take_of_lt (by omega),<-zl]
      exact h1
     have HPO:=AC (aL aa ga ca QB 0 8 p.PS AD 2 L w6.drew hpd.aa hpd.pages hpd.fz hn (fun q hq=>(AB HOK q hq).1) hA0.1 (by omega) (by rw [hLl];exact (AB HMB).symm) hv6 hga2.symm (AB HR6).lt)
     rw [hLl] at HPO
     have HEND:=AC (show ∀w7,(Dq w7 ga (Bu p.PS AD L NN)/\(∀i,w7.frozen? (pK ga i)=false)/\w6.drew.grownBy w7 (some ga))->Gg p _ im a b gp o aa ga ca w (.returned (.bool true)) w7 from fun w7 hh=>by
      unfold Gg
      rw [AB HMO,<-AB HRA,<-hL]
      have hB:=(AB HB6).trans (hbd6.mono (AB HB6).size)
      obtain ⟨k1,k2,k3⟩:=hh
      have hlen:=JM (E6 p.PS AD L NN)
      refine ⟨rfl,⟨?_,fun h0=>hpd.aa (by rw [<-hlen];exact h0),k1,k2,fun i=> ?_,hpd.apart,hpd.regs⟩,zh hB.size k3.size,⟨k3.os.trans hB.os,k3.tape.trans hB.tape,k3.output.trans hB.output⟩,fun k hk h1 h2=>(k3.block k (za hk hB.size) (by simpa using h2)).trans (hB.block k hk)⟩
      ·show w7.rangeAt gp o (BW p.pid p.par p.st p.su p.le p.pc p.R (.slice aa (Bu p.PS AD L NN).length ca) p.F)
       rw [hlen]
       exact fun j v hv=>k3.cell (hpd.row j v hv) (by simpa using hpd.apart.symm)
      ·have:=hpd.fp i
       unfold World.frozen? at this ⊢
       rw [k3.block gp (zu _ _ (hpd.row 0 _ rfl)) (by simpa using hpd.apart.symm)]
       exact this)
     have hN0:(0:Int)<=(NN:Int):=by omega
     have hN8:(NN:Int)<=8:=by omega
     have RS:=AC (show ∀w':World,w'.cell? (pK gp (o+22))=some (.slice aa p.PS.length ca)->(Instr.loadAt 77 (pq gp (o+22))).run Tryz.prog w'= .ok (.slice aa p.PS.length ca) w' from fun w' c=>by
      clear hpd hv6 HPO HEND p22 hL hLl
      go_simp)
     have RT:=AC (show ∀w':World,(Instr.sliceAt 32 (.slice (some (pK QB 0)) 8 8) none (some (.int .i64 (NN:Int))) none).run Tryz.prog w'= .ok (.slice (some (pK QB 0)) NN 8) w' from fun w'=>by
      clear hpd hv6 HPO HEND p22 hL hLl RS
      go_simp)
     have HP22:=AC p22
     clear hpd hv6 hL hLl p22 HMO hbd6
     go_upto_region 17 with fail
     refine BA ?_
     intro A hA
     have e0:A.eval (.tmp 0)= pq gp o:=by rw [hA];rfl
     have e5:A.eval (.tmp 5)= .int .u64 AD:=by rw [hA];rfl
     have e6:A.eval (.tmp 6)= .int .i64 (NN:Int):=by rw [hA];rfl
     have e10:A.eval (.tmp 10)= .slice (some (pK QB 0)) 8 8:=by rw [hA];rfl
     have esz:A.tmps.size=79:=by rw [hA];rfl
     have HAC:=AC hA
     clear hA
     refine wp_region_held_drew (S:=fun w'=>w'.cell? (pK gp (o+22))=some (.slice aa p.PS.length ca)) (by kernel_rfl) (AB HP22) (fun hS=> ?_)
     refine tk 0 (some 70) rfl rfl (by kernel_rfl) (fun _ _ _=>id) (AK rfl _ rfl (pq gp o) (by simp [AF,AE,esz,e0,e5,e6,e10,AI])) hS ?_
     refine tk 1 (some 71) rfl rfl (by kernel_rfl) (fun _ _ _=>id) (AX rfl _ rfl (pK gp o) (by simp [AF,AE,esz,e0,e5,e6,e10,AI])) hS ?_
     refine tk 2 (some 72) rfl rfl (by kernel_rfl) (fun _ _ _=>id) (AO rfl _ _ _ rfl (pq gp o) (by simp [AF,AE,esz,e0,e5,e6,e10,AI]) (pq gp (o+22)) (fun w'=>by go_simp)) hS ?_
     refine tk 3 (some 73) rfl rfl (by kernel_rfl) (fun _ _ _=>id) (AQ rfl _ _ rfl (pK gp (o+22)) (by simp [AF,AE,esz,e0,e5,e6,e10,AI]) (.slice aa p.PS.length ca) (AB RS)) hS ?_
     refine tk 4 (some 74) rfl rfl (by kernel_rfl) (fun _ _ _=>id) (AK rfl _ rfl (.int .u64 AD) (by simp [AF,AE,esz,e0,e5,e6,e10,AI])) hS ?_
     refine tk 5 (some 75) rfl rfl (by kernel_rfl) (fun _ _ _=>id) (AK rfl _ rfl (.slice (some (pK QB 0)) 8 8) (by simp [AF,AE,esz,e0,e5,e6,e10,AI])) hS ?_
     refine tk 6 (some 76) rfl rfl (by kernel_rfl) (fun _ _ _=>id) (AK rfl _ rfl (.int .i64 (NN:Int)) (by simp [AF,AE,esz,e0,e5,e6,e10,AI])) hS ?_
     refine tk 7 (some 77) rfl rfl (by kernel_rfl) (fun _ _ _=>id) (Qe rfl _ _ _ rfl (.slice (some (pK QB 0)) 8 8) (.int .i64 (NN:Int)) (by simp [AF,AE,esz,e0,e5,e6,e10,AI]) (by simp [AF,AE,esz,e0,e5,e6,e10,AI]) (.slice (some (pK QB 0)) NN 8) (AB RT)) hS ?_
     refine rdy [8] (by kernel_rfl) (AllReadyH.cons rfl (fun K hK=> ?_) AllReadyH.nil)
     refine Bt rfl 146 _ _ rfl #[.slice aa p.PS.length ca,.int .u64 AD,.slice (some (pK QB 0)) NN 8] (by simp [AF,AE,esz,e0,e5,e6,e10,AI]) YJ _ (fun e w' h=>⟨_,h.1⟩) (AB HPO) (some 78) rfl ?_
     rintro r w7 ⟨hr7,hh7⟩
     have hr7:r= .tuple #[]:=by injection hr7
     subst hr7
     refine hK.out _ _ (hh7.2.2.cell (AB HP22) (by simpa using (AB HP6).apart.symm)) (fun _=> ?_)
     clear hK K
     have HE7:=AC (AB HEND w7 hh7)
     refine wpAnyH_done (by kernel_rfl) ?_ _
     rw [AB HAC]
     simp only [Act.put,zm,zi,zj]
     clear hh7 HAC e0 e5 e6 e10 esz hS HPO RS RT HP22 HEND
     go_wp2
     go_ret
     exact AB HE7)
  ·have hpm:PM=4:=by rw [AB HPM];unfold F6;rw [if_neg hld]
   subst hpm
   have q15:(op==15)=false:=by simp;exact fun e=>hld (.inl e)
   have q17:(op==17)=false:=by simp;exact fun e=>hld (.inr e)
   clear hld
   go_wp2_with fail
   refine (AB HM).mono ?_
   rintro e w2 ⟨rfl,hh2,hb2⟩
   obtain ⟨mb,hmb⟩:∃mb,mb=Bs p.PS AD (NN:Int) 4:=⟨_,rfl⟩
   have HB2:=AC ((AB HB1).trans (hb2.mono (AB HB1).size))
   have HI2:=AC ((AB HI1).below hb2 (AB HI1).lt)
   have hgl1:ga<W1.heap.size:=by have:=(AB HB1).size;omega
   have HP2:=AC ((AB HP1).below hb2 hgl1)
   have hgl2:ga<w2.heap.size:=by have:=hb2.size;omega
   have q22:w2.cell? (pK gp (o+22))=some (.slice aa p.PS.length ca):=(AB HP2).row 22 _ rfl
   rw [<-hmb]
   have HMB:=AC hmb
   clear hh2 hb2 hmb HM p22 d0 q15 q17
   have HMO:=AC (show FA p op im a b=if mb=true then some {p with R:=p.R.set a (AW (Bd p.PS AD NN) 0 NN)} else none from by
    unfold FA
    rw [<-AB HAD,<-AB HNN,<-AB HPM,<-AB HMB]
    rfl)
   cases mb with
   |false=>
    go_wp2
    go_ret
    unfold Gg
    rw [AB HMO]
    exact ⟨rfl,AB HB2⟩
   |true=>
    have HPK:=AC (aK aa ga ca p.PS AD 4 NN w2 (AB HP2).aa (AB HP2).pages hgl2 hn (AB HOK) hA0.1 hNl.1 (AB HMB).symm)
    go_wp2_with fail
    refine (AB HPK).mono ?_
    rintro e w3 ⟨v,rfl,how3,hb3⟩
    obtain ⟨g,cap,rfl,hcell3⟩:∃g cap,v= .slice (some (pK g 0)) NN cap/\∀j,j<NN->w3.cell? (pK g j)=some (.int .u8 ((Bd p.PS AD NN).getD j 0)):=by
     rcases how3.2 with ⟨_,h0⟩|⟨g,cap,cur,hv,_⟩
     ·omega
     ·refine ⟨g,cap,hv,fun j hj=> ?_⟩
      subst hv
      rw [how3.cellAt j (by omega)]
      exact AT _ _ (by rw [Ox];exact hj)
    have HB3:=AC ((AB HB2).trans (hb3.mono (AB HB2).size))
    have HI3:=AC ((AB HI2).below hb3 (AB HI2).lt)
    have HP3:=AC ((AB HP2).below hb3 hgl2)
    have hib:AY (Bd p.PS AD NN):=fun j=>by
     rw [zl]
     unfold Bd
     rw [ze]
     cases hj:(List.range NN)[j]? with
     |none=>exact ⟨Int.le_refl 0,show (0:Int)<=255 by decide⟩
     |some i=>exact F9 (AB HOK) _
    obtain ⟨NU,hNU⟩:∃NU,NU=AW (Bd p.PS AD NN) 0 NN:=⟨_,rfl⟩
    have HNU:=AC (BF g 0 NN cap (Bd p.PS AD NN) 0 w3.drew hib (by omega) (fun j hj=>by rw [zq];exact hcell3 j hj))
    rw [<-hNU] at HNU HMO
    obtain ⟨wn,hwn⟩:∃wn,wn=w3.drew.setCell (pK gp (o+6+a)) (.int .u64 NU):=⟨_,rfl⟩
    have hpd:Ep w3.drew gp o p aa ga ca:=(AB HP3).below ⟨rfl,rfl,rfl,zx _,fun _ _=>rfl⟩ (by have:=(AB HB3).size;omega)
    have hst:(Instr.storeAt 75 (pq gp (o+6+a)) (.int .u64 NU)).run Tryz.prog w3.drew= .ok () wn:=by
     rw [hwn]
     have c:w3.drew.cell? (pK gp (o+6+a))=some (.int .u64 (p.R.getD a 0)):=by rw [show o+6+a=o+(6+a) by omega];exact hpd.reg ha
     have f:=hpd.fp (o+6+a)
     clear how3 hcell3 hpd hwn HPK HNU HMO hib hb3 q22
     go_simp
    have HEND:=AC (show Gg p op im a b gp o aa ga ca w (.returned (.bool true)) wn from by
     unfold Gg
     rw [AB HMO]
     have hg:=AS (zk w3.drew (some gp)) (o+6+a) (.int .u64 NU)
     rw [<-hwn] at hg
     have hB:=AB HB3
     refine ⟨rfl,?_,by have:=hg.size;have:=hB.size;exact zh hB.size hg.size,⟨hg.os.trans hB.os,hg.tape.trans hB.tape,hg.output.trans hB.output⟩,fun k hk h1 h2=>(hg.block k (za hk hB.size) (by simpa using h1)).trans (hB.block k hk)⟩
     rw [hwn,show o+6+a=o+(6+a) by omega]
     exact hpd.setReg ha NU)
    have hSc:w3.cell? (pK NI 1)=some (.int .i64 a):=(AB HI3).cell rfl
    have hni:NI≠gp:=by
     have:=zu w _ ((AB HP).row 0 _ rfl)
     rw [AB HN]
     exact fun e=>by simp at this;omega
    have hSn:wn.cell? (pK NI 1)=some (.int .i64 a):=by
     rw [hwn]
     exact (AS (zk w3.drew (some gp)) (o+6+a) (.int .u64 NU)).cell (show w3.drew.cell? (pK NI 1)=_ from hSc) (by simpa using hni)
    have ha0:(0:Int)<=(a:Int):=by omega
    have ha1:(a:Int)<16:=by omega
    have RA:=AC (show ∀w':World,w'.cell? (pK NI 1)=some (.int .i64 a)->(Instr.loadAt 3 (pq NI 1)).run Tryz.prog w'= .ok (.int .i64 a) w' from fun w' c=>by
     clear how3 hcell3 hpd hwn HPK HNU HMO hib hb3 q22 hSc hSn hst HEND
     go_simp)
    have RI:=AC (show ∀w':World,(Instr.indexAt 76 (pq gp (o+6)) (.int .i64 (a:Int))).run Tryz.prog w'= .ok (pq gp (o+6+a)) w' from fun w'=>by
     clear how3 hcell3 hpd hwn HPK HNU HMO hib hb3 q22 hSc hSn hst HEND RA
     go_simp)
    have HSC:=AC hSc
    have HSN:=AC hSn
    have HST:=AC hst
    clear how3 hcell3 hpd hwn HPK HMO hib hb3 q22 hSc hSn hst hNU
    go_upto_region 13 with fail
    refine BA ?_
    intro A hA
    have e0:A.eval (.tmp 0)= pq gp o:=by rw [hA];rfl
    have e3:A.eval (.tmp 3)= pq NI 0:=by rw [hA];rfl
    have e9:A.eval (.tmp 9)= .slice (some (pK g 0)) NN cap:=by rw [hA];rfl
    have esz:A.tmps.size=79:=by rw [hA];rfl
    have HAC:=AC hA
    clear hA
    refine wp_region_held_drew (S:=fun w'=>w'.cell? (pK NI 1)=some (.int .i64 a)) (by kernel_rfl) (AB HSC) (fun hS=> ?_)
    refine tk 0 (some 52) rfl rfl (by kernel_rfl) (fun _ _ _=>id) (AK rfl _ rfl (pq gp o) (by simp [AF,AE,esz,e0,e3,e9,AI])) hS ?_
    refine tk 1 (some 53) rfl rfl (by kernel_rfl) (fun _ _ _=>id) (AO rfl _ _ _ rfl (pq NI 0) (by simp [AF,AE,esz,e0,e3,e9,AI]) (pq NI 1) (fun w'=>by go_simp)) hS ?_
    refine tk 2 (some 54) rfl rfl (by kernel_rfl) (fun _ _ _=>id) (AQ rfl _ _ rfl (pK NI 1) (by simp [AF,AE,esz,e0,e3,e9,AI]) (.int .i64 a) (AB RA)) hS ?_
    refine tk 3 (some 55) rfl rfl (by kernel_rfl) (fun _ _ _=>id) (AK rfl _ rfl (.slice (some (pK g 0)) NN cap) (by simp [AF,AE,esz,e0,e3,e9,AI])) hS ?_
    refine tk 5 (some 57) rfl rfl (by kernel_rfl) (fun _ _ _=>id) (AX rfl _ rfl (pK gp o) (by simp [AF,AE,esz,e0,e3,e9,AI])) hS ?_
    refine tk 6 (some 58) rfl rfl (by kernel_rfl) (fun _ _ _=>id) (AO rfl _ _ _ rfl (pq gp o) (by simp [AF,AE,esz,e0,e3,e9,AI]) (pq gp (o+6)) (fun w'=>by go_simp)) hS ?_
    refine rdy [4] (by kernel_rfl) (AllReadyH.cons rfl (fun K hK=> ?_) AllReadyH.nil)
    refine Bt rfl 102 _ _ rfl #[.slice (some (pK g 0)) NN cap] (by simp [AF,AE,esz,e0,e3,e9,AI]) TT _ (fun e w' h=>⟨_,h.1⟩) (AB HNU) (some 56) rfl ?_
    rintro r w4 ⟨hr4,hw4⟩
    have hr4:r= .int .u64 NU:=by injection hr4
    subst hr4 hw4
    refine hK.out _ _ (AB HSC) (fun _=> ?_)
    clear hK K
    refine tk 7 (some 59) rfl rfl (by kernel_rfl) (fun _ _ _=>id) (BM rfl _ _ _ rfl (pq gp (o+6)) (.int .i64 (a:Int)) (by simp [AF,AE,esz,e0,e3,e9,AI]) (by simp [AF,AE,esz,e0,e3,e9,AI]) (pq gp (o+6+a)) (AB RI)) (AB HSC) ?_
    refine Ef ?_
    intro A2 hA2
    have g59:A2.eval (.tmp 59)= pq gp (o+6+a):=by rw [hA2];simp [AF,AE,esz,e0,e3,e9,AI]
    have g56:A2.eval (.tmp 56)= .int .u64 NU:=by rw [hA2];simp [AF,AE,esz,e0,e3,e9,AI]
    have HAC2:=AC hA2
    clear hA2
    refine rdy [8] (by kernel_rfl) (AllReadyH.cons rfl (fun K hK=> ?_) AllReadyH.nil)
    refine De rfl _ (.tmp 59) (.tmp 56) rfl (pK gp (o+6+a)) (.int .u64 NU) g59 g56 (AB HST) rfl ?_
    refine hK.out _ _ (AB HSN) (fun _=> ?_)
    clear hK K
    refine wpAnyH_done (by kernel_rfl) ?_ _
    rw [AB HAC2,AB HAC]
    simp only [Act.put,zm,zi,zj]
    clear RA RI HSC HSN HST HNU HAC HAC2 g59 g56 e0 e3 e9 esz hS
    go_wp2
    go_ret
    exact AB HEND
theorem YN (kb:Nat) (of kind:Int) (w:World) (h:w.cell? (pK kb 6)=some (.slice none 0 0)):
  Calls Tryz.prog 185 #[pq kb 0,.int .i64 of,.int .i64 kind] w fun e w'=>e= .returned (.int .i64 0)/\w'=w:=by
 go_enter Tryz.func185,Tryz.ntmps185
 go_wp2
 go_loop [7,8] (fun n i=>n= .int .i64 0/\i= .int .i64 0) (fun _ _=>0)
 case atStart=>exact ⟨rfl,rfl⟩
 case round=>
  obtain ⟨rfl,rfl⟩:=hrel
  go_wp2
  go_ret
  exact ⟨rfl,rfl⟩
def YO (base kb:Nat) (k:RK) (w:World) (e:Ending) (w':World):Prop:=
 e= .returned (.tuple #[])/\∃v,AG w' kb 87 (k.cells v)/\w'.ownsRow w.heap.size 128 5 v k.inos.length (B0 k.inos)/\w.grownBy w' (some kb)
theorem YP (base kb g cap:Nat) (k:RK) (w:World) (h:D9 w base kb g cap k) (hkb:kb<base) (hov:k.ov= .slice none 0 0) (hcv:k.cv= .slice none 0 0) (hn:k.inos.length<=100000) (hl:∀x∈k.inos,0<x.parent\/x.id=1) (hone:∀x∈k.inos,∃a n c,x.bytes= .slice a n c):
  Calls Tryz.prog 145 #[pq kb 0] w (YO base kb k w):=by
 have hgb:=h.2.lt g rfl
 have hkl:=h.1.lt
 obtain ⟨ii,hii,hz0,hz1,hz2⟩:=Eu QO
 have HII:=AC (And.intro hii (And.intro hz0 (And.intro hz1 hz2)))
 have c6:w.cell? (pK kb 6)=some (.slice none 0 0):=by rw [<-hov];exact h.1.cell rfl
 have c8:w.cell? (pK kb 8)=some (.slice none 0 0):=by rw [<-hcv];exact h.1.cell rfl
 have f6:=h.1.frozen 6
 obtain ⟨W1,hW1⟩:∃W1,W1=w.setCell (pK kb 6) (.slice none 0 0):=⟨_,rfl⟩
 have hk1:AG W1 kb 87 (k.cells (.slice (some (pK g 0)) k.inos.length cap)):=by
  rw [hW1]
  have:=h.1.set 6 (.slice none 0 0)
  have e:(k.cells (.slice (some (pK g 0)) k.inos.length cap)).set 6 (.slice none 0 0)=k.cells (.slice (some (pK g 0)) k.inos.length cap):=by unfold RK.cells;rw [hov];rfl
  rwa [e] at this
 have c8':W1.cell? (pK kb 8)=some (.slice none 0 0):=by rw [<-hcv];exact hk1.cell rfl
 have f8:=hk1.frozen 8
 obtain ⟨W2,hW2⟩:∃W2,W2=W1.setCell (pK kb 8) (.slice none 0 0):=⟨_,rfl⟩
 have hk2:AG W2 kb 87 (k.cells (.slice (some (pK g 0)) k.inos.length cap)):=by
  rw [hW2]
  have:=hk1.set 8 (.slice none 0 0)
  have e:(k.cells (.slice (some (pK g 0)) k.inos.length cap)).set 8 (.slice none 0 0)=k.cells (.slice (some (pK g 0)) k.inos.length cap):=by unfold RK.cells;rw [hcv];rfl
  rwa [e] at this
 have hg2:w.grownBy W2 (some kb):=by rw [hW2,hW1];exact AS (AS (zk _ _) 6 _) 8 _
 have hs2:W2.heap.size=w.heap.size:=by rw [hW2,hW1];simp [World.setCell]
 have hrow:∀j v,(B0 k.inos)[j]? =some v->W2.cell? (pK g j)=some v:=fun j v hv=>hg2.cell (by have:=h.at.2 j v hv;rwa [zq] at this) (by simp;omega)
 have HW1:=AC hW1
 have HW2:=AC hW2
 have HK2:=AC hk2
 have HG2:=AC hg2
 have HS2:=AC hs2
 have HROW:=AC hrow
 have HL:=AC (And.intro hl hone)
 have HOV:=AC hov
 clear h hW1 hW2 hk1 hk2 hg2 hs2 hrow hl hone hii hz0 hz1 hz2 hov hcv
 go_enter Tryz.func145,Tryz.ntmps145
 go_wp2
 go_loop [2,3] (fun n i=>n= .slice none 0 0/\i= .int .i64 0) (fun _ _=>0)
 case atStart=>exact ⟨rfl,rfl⟩
 case round=>
  obtain ⟨rfl,rfl⟩:=hrel
  go_upto_region 8 with fail
  rw [<-AB HW1]
  clear c6 c8 f6
  go_wp2
  go_loop [5,6] (fun n i=>n= .slice none 0 0/\i= .int .i64 0) (fun _ _=>0)
  case atStart=>exact ⟨rfl,rfl⟩
  case round=>
   obtain ⟨rfl,rfl⟩:=hrel
   go_upto_region 16 with fail
   rw [<-AB HW2]
   clear c8' f8
   go_wp2
   obtain ⟨n,hnn⟩:∃n,n=k.inos.length:=⟨_,rfl⟩
   have HNN:=AC hnn
   rw [<-hnn] at hn HK2
   clear hnn
   go_loopw [8,9] (fun v i wr=>∃j:Nat,j<=n/\i= .int .i64 j/\Hid (wr.ownsRow w.heap.size 128 5 v j (B0 (k.inos.take j)))/\Hid (Below w.heap.size W2 wr)) (fun _ i _=>n-(intOf i).toNat)
   case atStart=>exact ⟨0,by omega,rfl,AC (World.ownsRow_nil _ _ _ _),AC (zw _ _)⟩
   case round=>
    obtain ⟨j,hj,rfl,HOW,HBL⟩:=hrel
    have hsz:=(AB HBL).size
    have hs2:=AB HS2
    have c7:wr.cell? (pK kb 7)=some (.slice (some (pK g 0)) n cap):=((AB HK2).below (AB HBL) (by omega)).cell rfl
    have c6:wr.cell? (pK kb 6)=some (.slice none 0 0):=by rw [<-AB HOV];exact ((AB HK2).below (AB HBL) (by omega)).cell rfl
    have how:=AB HOW
    obtain ⟨sa,sc,hsv⟩:∃sa sc,u8= .slice sa j sc:=by
     rcases how.2 with ⟨e1,e2⟩|⟨g',c',_,e1,_⟩
     ·exact ⟨none,0,by rw [e1,e2]⟩
     ·exact ⟨_,c',e1⟩
    subst hsv
    clear how
    by_cases hlt:j<n
    ·obtain ⟨x,hx⟩:∃x,k.inos[j]? =some x:=⟨_,zz (by rw [<-AB HNN];exact hlt)⟩
     have hxm:=zv hx
     have hcell:∀w':World,Below w.heap.size W2 w'->∀(i:Nat) (v:Value),i<5->(BJ x)[i]? =some v->w'.cell? (pK g (j*5+i))=some v:=fun w' hb i v hi hv=>by
      rw [hb.cell (p:=(pK g (j*5+i))) hgb.2]
      exact AB HROW _ _ (Jl k.inos j i x v hx hi hv)
     have i0:wr.cell? (pK g (j*5))=some (.int .i64 x.id):=hcell wr (AB HBL) 0 _ (by omega) rfl
     have HEN:=AC (YN kb x.id 1 wr c6)
     have hj0:(0:Int)<=(j:Int):=by omega
     have hj1:(j:Int)<(n:Int):=by omega
     have HX:=AC hx
     have HC:=AC hcell
     have HLX:=AC (And.intro ((AB HL).1 x hxm) ((AB HL).2 x hxm))
     have hsw:w.heap.size<=wr.heap.size:=by omega
     clear hx hxm hcell hs2
     go_wp2_with fail
     refine (AB HEN).mono ?_
     rintro e w1 ⟨rfl,hw1⟩
     subst hw1
     obtain ⟨ba,bn,bc,hbx⟩:=(AB HLX).2
     have hinc:BJ x=[.int .i64 x.id,.int .i64 x.parent,.string x.name,.bool x.dir,.slice ba bn bc]:=by unfold BJ;rw [hbx]
     have HINC:=AC hinc
     have i1:w1.cell? (pK g (j*5+1))=some (.int .i64 x.parent):=AB HC w1 (AB HBL) 1 _ (by omega) rfl
     have i2:w1.cell? (pK g (j*5+2))=some (.string x.name):=AB HC w1 (AB HBL) 2 _ (by omega) rfl
     have i3:w1.cell? (pK g (j*5+3))=some (.bool x.dir):=AB HC w1 (AB HBL) 3 _ (by omega) rfl
     have i4:w1.cell? (pK g (j*5+4))=some (.slice ba bn bc):=by rw [<-hbx];exact AB HC w1 (AB HBL) 4 _ (by omega) rfl
     have HTK:=AC (show B0 (k.inos.take (j+1))=B0 (k.inos.take j)++[.int .i64 x.id,.int .i64 x.parent,.string x.name,.bool x.dir,.slice ba bn bc] from by
      rw [List.take_add_one,AB HX,B0,List.flatMap_append,<-hinc]
      simp [B0])
     have HNW:=AC (show ∀j u,[Value.int .i64 x.id,.int .i64 x.parent,.string x.name,.bool x.dir,.slice ba bn bc][j]? =some u->(w1.alloc (Obj.cells #[.int .i64 x.id,.int .i64 x.parent,.string x.name,.bool x.dir,.slice ba bn bc] 128)).cell? (((pK w1.heap.size 0):Addr).add j)=some u from by
      intro j u hj
      rw [Ky,zq]
      exact (AG.new w1 128 _).cell hj)
     have HON:=AC (show ∀u∈[Value.int .i64 x.id,.int .i64 x.parent,.string x.name,.bool x.dir,.slice ba bn bc],u.oneCell'=true from by
      intro u hu
      simp only [List.mem_cons,List.not_mem_nil,or_false] at hu
      rcases hu with rfl|rfl|rfl|rfl|rfl<;>rfl)
     clear hinc hbx HEN
     have HOR:=AC (AB HLX).1
     obtain ⟨qb,hqb⟩:∃qb:Bool,qb=decide (0<x.parent):=⟨_,rfl⟩
     have HID:=AC (show qb=false->x.id=1 from fun q=>by
      rcases (AB HLX).1 with hp|hi
      ·rw [hqb,decide_eq_true hp] at q;cases q
      ·exact hi)
     cases qb with
     |true=>
      have hp:0<x.parent:=of_decide_eq_true hqb.symm
      clear hqb
      go_wp2_with (at_builtin;refine wpList_append_lies _ (by rfl) _ _ 83 (by rfl) w.heap.size 128 ii _ 5 64 Tryz.underlying83 (AB HII).1 (AB HII).2.1 (AB HII).2.2.1 (AB HII).2.2.2 rfl (by decide) _ _ _ (by rfl) ((AB HOW).alloc _) (pK w1.heap.size 0) 1 1 [.int .i64 x.id,.int .i64 x.parent,.string x.name,.bool x.dir,.slice ba bn bc] (by rfl) (by rfl) (AB HNW) (AB HON) (by omega) (by unfold maxLen;omega) (by omega) (by simp;omega) (w1.heap.size+1) (by simp) ?_;intro g5 cap5 w5 hown5 hgrow5 hat5 hlt5)
      have hB5:Below w.heap.size W2 w5:=((AB HBL).alloc (by omega) _).grown hgrow5 (by simp;omega) (by intro q h;have:=(AB HOW).lt q h;omega)
      exact ⟨⟨j+1,by omega,by simp,AC (by rw [AB HTK];exact hown5),AC hB5⟩,by simp only [intOf];omega⟩
     |false=>
      have hp:¬0<x.parent:=of_decide_eq_false hqb.symm
      have hi1:(x.id==1)=true:=by rw [AB HID rfl];rfl
      clear hqb
      go_wp2_with (at_builtin;refine wpList_append_lies _ (by rfl) _ _ 83 (by rfl) w.heap.size 128 ii _ 5 64 Tryz.underlying83 (AB HII).1 (AB HII).2.1 (AB HII).2.2.1 (AB HII).2.2.2 rfl (by decide) _ _ _ (by rfl) ((AB HOW).alloc _) (pK w1.heap.size 0) 1 1 [.int .i64 x.id,.int .i64 x.parent,.string x.name,.bool x.dir,.slice ba bn bc] (by rfl) (by rfl) (AB HNW) (AB HON) (by omega) (by unfold maxLen;omega) (by omega) (by simp;omega) (w1.heap.size+1) (by simp) ?_;intro g5 cap5 w5 hown5 hgrow5 hat5 hlt5)
      have hB5:Below w.heap.size W2 w5:=((AB HBL).alloc (by omega) _).grown hgrow5 (by simp;omega) (by intro q h;have:=(AB HOW).lt q h;omega)
      exact ⟨⟨j+1,by omega,by simp,AC (by rw [AB HTK];exact hown5),AC hB5⟩,by simp only [intOf];omega⟩
    ·have hje:j=n:=by omega
     subst hje
     have f7:=((AB HK2).below (AB HBL) (by omega)).frozen 7
     go_wp2
     go_end0
     have hG:w.grownBy wr (some kb):=⟨(AB HBL).os.trans (AB HG2).os,(AB HBL).tape.trans (AB HG2).tape,(AB HBL).output.trans (AB HG2).output,by omega,fun i hi hne=>((AB HBL).block i (by omega)).trans ((AB HG2).block i hi hne)⟩
     refine ⟨rfl,.slice sa j sc,((AB HK2).below (AB HBL) (by omega)).set 7 _,?_,AS hG 7 _⟩
     have hw:=AB HOW
     rw [yh (by rw [<-AB HNN];omega)] at hw
     rw [<-AB HNN]
     refine hw.kept (AS (zk wr (some kb)) 7 _) ?_
     cases hv:Value.ownBlock (.slice sa j sc) with
     |none=>exact .inl rfl
     |some q=>exact .inr (by have:=(AB HOW).lt q hv;simp;omega)
end Go.Proofs.YtdchgbmliojoiaaGreatDoor
