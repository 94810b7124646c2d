import Derived.Test.YtdchgbmliojoiaaGreatDoorG21
set_option maxRecDepth 100000
set_option maxHeartbeats 1000000
set_option linter.unusedVariables false
set_option linter.unusedSimpArgs false
namespace Go.Proofs.YtdchgbmliojoiaaGreatDoor
open Go Go.RowKit
def FY (f:Nat->Int) (perm x:Int):Bool:=decide (x<65536)&& !(bits .and .u8 (f (x/256).toNat) perm==0)
def Ae (f:Nat->Int) (perm addr:Int) (n:Nat):Bool:=(List.range n).all fun i:Nat=>FY f perm (IntKind.u64.wrap (addr+(i:Int)))
theorem Oy (f:Nat->Int) (perm addr:Int) (n:Nat):Ae f perm addr (n+1)=(Ae f perm addr n&&FY f perm (IntKind.u64.wrap (addr+(n:Int)))):=by
 unfold Ae
 rw [List.range_succ,List.all_append]
 simp
theorem L4 {f:Nat->Int} {perm addr:Int} {j n:Nat} (hj:j<n) (h:FY f perm (IntKind.u64.wrap (addr+(j:Int)))=false):Ae f perm addr n=false:=by
 unfold Ae
 rw [List.all_eq_false]
 exact ⟨j,zg.2 hj,by rw [h];decide⟩
theorem TU (pb so:Nat) (f:Nat->Int) (perm addr:Int) (n:Nat) (w:World) (hn:n<=1000) (hc:∀j:Nat,j<256->w.cell? (pK pb (so+j*257))=some (.int .u8 (f j))):
  Calls Tryz.prog 318 #[pq pb so,.int .u8 perm,.int .u64 addr,.int .i64 n] w fun e w'=>e= .returned (.bool (Ae f perm addr n))/\w'=w:=by
 have HC:=AC hc
 clear hc
 go_enter Tryz.func318,Tryz.ntmps318
 go_wp2
 go_loopw [12] (fun i wr=>∃j:Nat,j<=n/\i= .int .i64 j/\Ae f perm addr j=true/\wr=w) (fun i _=>n-(intOf i).toNat)
 case atStart=>exact ⟨0,by omega,rfl,rfl,rfl⟩
 case round=>
  obtain ⟨j,hj,rfl,hm,rfl⟩:=hrel
  by_cases hlt:j<n
  ·have hj1:(j:Int)<(n:Int):=by omega
   have hj0:(0:Int)<=(j:Int):=by omega
   have hj2:IntKind.u64.wrap (j:Int)=(j:Int):=by rw [ym];omega
   obtain ⟨X,hX⟩:∃X,X=IntKind.u64.wrap (addr+(j:Int)):=⟨_,rfl⟩
   have hX0:0<=X:=by rw [hX,ym];omega
   have hX1:X<=18446744073709551615:=by rw [hX,ym];omega
   have HX:=AC hX
   have q1:=hX.symm
   by_cases hge:65536<=X
   ·have HR:=AC (show Ae f perm addr n=false from L4 hlt (by rw [<-hX];unfold FY;simp;omega))
    clear hX hm
    go_wp2
    go_ret
    exact ⟨by rw [AB HR];rfl,rfl⟩
   ·obtain ⟨M,hM⟩:∃M:Nat,(M:Int)=X/256:=⟨(X/256).toNat,by omega⟩
    have hM2:M<256:=by omega
    have hcell:=AB HC M hM2
    have hMt:(X/256).toNat=M:=by omega
    have hdiv:X.tdiv 256=(M:Int):=by rw [Int.tdiv_eq_ediv_of_nonneg hX0];exact hM.symm
    have hge2:¬(65536:Int)<=X:=hge
    obtain ⟨P,hP⟩:∃P,P=f M:=⟨_,rfl⟩
    rw [<-hP] at hcell
    by_cases hz:bits .and .u8 P perm=0
    ·have HR:=AC (show Ae f perm addr n=false from L4 hlt (by rw [<-hX];unfold FY;rw [hMt,<-hP];simp [hz]))
     have hM0:(0:Int)<=(M:Int):=by omega
     have hM1:(M:Int)<256:=by omega
     have hz2:(bits .and .u8 P perm==0)=true:=by simpa using hz
     clear hX hm hM hMt hP hz
     go_wp2
     go_ret
     exact ⟨by rw [AB HR];rfl,rfl⟩
    ·have HR:=AC (show Ae f perm addr (j+1)=true from by
      rw [Oy,hm,<-hX];unfold FY;rw [hMt,<-hP];simp [hz];omega)
     have hM0:(0:Int)<=(M:Int):=by omega
     have hM1:(M:Int)<256:=by omega
     have hz2:(bits .and .u8 P perm==0)=false:=by simpa using hz
     clear hX hm hM hMt hP hz
     go_wp2
     exact ⟨⟨j+1,by omega,by simp,AB HR,trivial⟩,by simp only [intOf];omega⟩
  ·have hje:j=n:=by omega
   subst hje
   have HR:=AC hm
   clear hm
   go_wp2
   go_ret
   exact ⟨by rw [AB HR];rfl,rfl⟩
def pc4 (p:AP):Int:=IntKind.u64.wrap (p.pc+4)
def Au (p:AP):AP:=
 if 0<(AH p.PS p.pc).2 then p.ended (AH p.PS p.pc).2
 else match DS (AH p.PS p.pc).1.op (AH p.PS p.pc).1.im (p.R.getD (AH p.PS p.pc).1.a.toNat 0) (p.R.getD (AH p.PS p.pc).1.b.toNat 0) with
  |some r=>{p with R:=p.R.set (AH p.PS p.pc).1.a.toNat r,pc:=pc4 p}
  |none=>
   if 14<=(AH p.PS p.pc).1.op/\(AH p.PS p.pc).1.op<=17 then
    match FA p (AH p.PS p.pc).1.op (AH p.PS p.pc).1.im (AH p.PS p.pc).1.a.toNat (AH p.PS p.pc).1.b.toNat with
    |none=>p.ended 131
    |some q=>{q with pc:=pc4 p}
   else {p with R:=if (AH p.PS p.pc).1.op=22 then p.R.set (AH p.PS p.pc).1.a.toNat (pc4 p) else p.R,pc:=Cf (AH p.PS p.pc).1.op (AH p.PS p.pc).1.im p.pc (p.R.getD (AH p.PS p.pc).1.a.toNat 0) (p.R.getD (AH p.PS p.pc).1.b.toNat 0)}
theorem Bp {PS:List Pg} {PC:Int} (hok:∀q∈PS,q.bytes.length=256/\AY q.bytes) (h:(AH PS PC).2=0):1<=(AH PS PC).1.op/\(AH PS PC).1.op<=24/\0<=(AH PS PC).1.a/\(AH PS PC).1.a<=15/\0<=(AH PS PC).1.b/\(AH PS PC).1.b<=15:=by
 unfold AH at h ⊢
 split at h
 ·rename_i h1
  rw [if_pos h1]
  split at h
  ·exact absurd h (show ¬(130:Int)=0 by decide)
  ·rename_i h2
   rw [if_neg h2]
   have:=F9 hok (PC+1)
   show 1<=Ap PS PC/\Ap PS PC<=24/\0<=Ap PS (PC+1)/16/\Ap PS (PC+1)/16<=15/\0<=Ap PS (PC+1)%16/\Ap PS (PC+1)%16<=15
   omega
 ·exact absurd h (show ¬(129:Int)=0 by decide)
theorem YR (PS:List Pg) (PC:Int):0<=(AH PS PC).2:=by
 unfold AH
 split
 ·split
  ·exact (show (0:Int)<=130 by decide)
  ·exact Int.le_refl 0
 ·exact (show (0:Int)<=129 by decide)
def gG (w:World) (base kb gp ga:Nat) (k:RK):Prop:=∃v,AG w kb 87 (k.cells v)/\w.ownsRow base 128 5 v k.inos.length (B0 k.inos)/\v.ownBlock≠some gp/\v.ownBlock≠some ga
structure Km (base kb gp:Nat) (k:RK) (p:AP) (aa:Option Addr) (ga ca:Nat) (w:World) (e:Ending) (w':World):Prop where
 end_:e= .returned (.int .i64 0)
 proc:∃aa' ca',Ep w' gp 0 (Au p) aa' ga ca'
 ker:gG w' base kb gp ga k
 os:w'.os=w.os/\w'.tape=w.tape/\w'.output=w.output/\w.heap.size<=w'.heap.size
 block:∀b,b<w.heap.size->b≠kb->b≠gp->b≠ga->w'.heap[b]? =w.heap[b]?
theorem YS {w:World} {base b size n:Nat} {e:TypeId} {v:Value} {xs:List Value} (h:w.ownsRow base e size v n xs) (hb:b<=base):w.ownsRow b e size v n xs:=
 ⟨h.1,h.2.imp id (fun ⟨g,cap,cur,x1,x2,x3⟩=>⟨g,cap,cur,x1,zh hb x2,x3⟩)⟩
theorem Nx {base kb gp:Nat} {k:RK} {p:AP} {aa:Option Addr} {ga ca:Nat} {st:Int} {w W3 w':World} {e:Ending} (h:MY base kb gp k p st ga W3 e w') (hb:Below w.heap.size w W3) (hs:Au p=p.ended st) (hbs:base<=w.heap.size/\gp<w.heap.size/\ga<w.heap.size):Km base kb gp k p aa ga ca w (.returned (.int .i64 0)) w':=by
 obtain ⟨_,h1,⟨v,h2,h3⟩,h4⟩:=h
 exact ⟨rfl,⟨none,0,by rw [hs];exact h1⟩,⟨v,h2,YS h3 (zh hbs.1 hb.size),fun q=>by have:=(h3.lt _ q).1;have:=hb.size;omega,fun q=>by have:=(h3.lt _ q).1;have:=hb.size;omega⟩,⟨h4.os.trans hb.os,h4.tape.trans hb.tape,h4.output.trans hb.output,zh hb.size h4.size⟩,fun b hbl n1 n2 n3=>(h4.block b (za hbl hb.size) n1 n2).trans (hb.block b hbl)⟩
theorem LJ {w w':World} {base g size n cap:Nat} {e:TypeId} {xs:List Value} (h:w.ownsRow base e size (.slice (some (pK g 0)) n cap) n xs) (hb:w'.heap[g]? =w.heap[g]?):w'.ownsRow base e size (.slice (some (pK g 0)) n cap) n xs:=by
 refine ⟨h.1,h.2.imp id ?_⟩
 rintro ⟨g',cap',cur,x1,x2,x3,x4⟩
 have:g=g':=by injection x1 with x1;injection x1 with x1;injection x1
 subst this
 exact ⟨g,cap',cur,x1,x2,by rw [hb];exact x3,x4⟩
theorem JN {base kb g cap gp:Nat} {k:RK} {p q:AP} {aa aa':Option Addr} {ga ca ca':Nat} {w w6 w':World} (hb:Below w.heap.size w w6) (hP:Ep w' gp 0 q aa' ga ca') (hs:Au p=q) (hK:D9 w6 base kb g cap k) (hgk:gp≠kb) (hgg:gp≠g) (hak:ga≠kb) (hag:ga≠g) (ho:w'.os=w6.os/\w'.tape=w6.tape/\w'.output=w6.output/\w6.heap.size<=w'.heap.size) (hf:∀b,b<w6.heap.size->b≠gp->b≠ga->w'.heap[b]? =w6.heap[b]?):Km base kb gp k p aa ga ca w (.returned (.int .i64 0)) w':=by
 have hgl:=hK.2.lt g rfl
 refine ⟨rfl,⟨aa',ca',by rw [hs];exact hP⟩,⟨_,?_,LJ hK.2 (hf g hgl.2 hgg.symm hag.symm),by simpa [Value.ownBlock] using hgg.symm,by simpa [Value.ownBlock] using hag.symm⟩,⟨ho.1.trans hb.os,ho.2.1.trans hb.tape,ho.2.2.1.trans hb.output,zh hb.size ho.2.2.2⟩,fun b hbl n1 n2 n3=>(hf b (za hbl hb.size) n2 n3).trans (hb.block b hbl)⟩
 have:=hK.1
 unfold AG at this ⊢
 rw [hf kb hK.1.lt hgk.symm hak.symm]
 exact this
def VP (NI gp:Nat) (op:Int) (a b:Nat) (im pc:Int) (w:World):Prop:=w.cell? (pK NI 0)=some (.int .i64 op)/\w.cell? (pK NI 1)=some (.int .i64 (a:Int))/\w.cell? (pK NI 2)=some (.int .i64 (b:Int))/\w.cell? (pK NI 3)=some (.int .i64 im)/\w.cell? (pK gp 5)=some (.int .u64 pc)
theorem VP.below {NI gp:Nat} {op:Int} {a b:Nat} {im pc:Int} {w w':World} (h:VP NI gp op a b im pc w) (hb:Below w.heap.size w w'):VP NI gp op a b im pc w':=by
 have hc:∀b i v,w.cell? (pK b i)=some v->w'.cell? (pK b i)=some v:=fun b i v hv=>by rw [hb.cell (p:=(pK b i)) (zu w _ hv)];exact hv
 exact ⟨hc _ _ _ h.1,hc _ _ _ h.2.1,hc _ _ _ h.2.2.1,hc _ _ _ h.2.2.2.1,hc _ _ _ h.2.2.2.2⟩
theorem VQ:∀args w,(callFunc 107 args).run Tryz.prog w= .ok (.enter 107 args) w:=enters_of Tryz.func107 (by kernel_rfl) rfl
theorem ai {p q:AP} {op im:Int} {a b:Nat} (h:FA p op im a b=some q):q.pc=p.pc:=by
 unfold FA at h
 split at h
 ·split at h
  ·obtain rfl:=zr h;rfl
  ·obtain rfl:=zr h;rfl
 ·cases h
theorem aj {op im a b:Int} (h1:1<=op) (h:DS op im a b=none):14<=op:=by
 by_cases h14:14<=op
 ·exact h14
 ·exfalso
  have hc:op=1\/op=2\/op=3\/op=4\/op=5\/op=6\/op=7\/op=8\/op=9\/op=10\/op=11\/op=12\/op=13:=by omega
  rcases hc with rfl|rfl|rfl|rfl|rfl|rfl|rfl|rfl|rfl|rfl|rfl|rfl|rfl
  all_goals first
   |(simp [DS] at h;done)
   |(unfold DS at h;simp at h;split at h<;>simp at h;done)
theorem Tc (base kb g cap gp cp:Nat) (k:RK) (p:AP) (aa:Option Addr) (ga ca:Nat) (w:World) (hk:D9 w base kb g cap k) (hkb:kb<base) (hpv:k.pv= .slice (some (pK gp 0)) 1 cp) (hov:k.ov= .slice none 0 0) (hcv:k.cv= .slice none 0 0) (hn:k.inos.length<=100000) (hl:∀x∈k.inos,0<x.parent\/x.id=1) (hone:∀x∈k.inos,∃a n c,x.bytes= .slice a n c)
  (h:Ep w gp 0 p aa ga ca) (hpid:p.pid=1) (hpar:p.par=0) (hst:p.st=0) (hgk:gp≠kb) (hgg:gp≠g) (hgl:ga<w.heap.size) (hak:ga≠kb) (hag:ga≠g) (hpn:p.PS.length<=100000) (hok:∀q∈p.PS,q.bytes.length=256/\AY q.bytes) (hpc:0<=p.pc/\p.pc<=18446744073709551615) (hr:∀r,0<=p.R.getD r 0/\p.R.getD r 0<=18446744073709551615) (hec:(AH p.PS p.pc).2=0->(AH p.PS p.pc).1.op≠24) (hbs:base<=w.heap.size):
  Calls Tryz.prog 52 #[pq kb 0,.int .i64 1] w (Km base kb gp k p aa ga ca w):=by
 have c5:w.cell? (pK kb 5)=some (.slice (some (pK gp 0)) 1 cp):=by rw [<-hpv];exact hk.1.cell rfl
 have c0:w.cell? (pK gp 0)=some (.int .i64 1):=by have:=h.row 0 _ rfl;rwa [zq,hpid] at this
 have c2:w.cell? (pK gp 2)=some (.int .i64 0):=by have:=h.row 2 _ rfl;rwa [zq,hst] at this
 have HBS:=AC (show base<=w.heap.size/\gp<w.heap.size/\ga<w.heap.size from ⟨hbs,zu w _ c0,hgl⟩)
 have HPR:=AC (FO kb gp cp w c5 c0)
 have HNX:=AC (No aa ga ca gp 0 p.PS p.pc w ⟨h.row 22 _ rfl,h.row 5 _ rfl⟩ h.aa h.pages hpn hok hpc.1 hpc.2)
 have hbdn:=YR p.PS p.pc
 have HBD:=AC (fun q=>Bp (PC:=p.pc) hok q)
 obtain ⟨NX,hNX⟩:∃NX,NX=AH p.PS p.pc:=⟨_,rfl⟩
 rw [<-hNX] at HNX HBD hec hbdn
 obtain ⟨⟨op,ia,ib,im⟩,tr⟩:=NX
 have HST:=AC (show Au p=_ from by unfold Au;rw [<-hNX])
 have HH:=AC (And.intro hk (And.intro h (And.intro hl (And.intro hone (And.intro hok hr)))))
 have HEQ:=AC (And.intro hpv (And.intro hov (And.intro hcv (And.intro hpid (And.intro hpar hst)))))
 have HEC:=AC hec
 clear hk h hl hone hpv hov hcv hpid hpar hst hec hNX hr hok
 go_enter Tryz.func52,Tryz.ntmps52
 go_wp2_with fail
 refine (AB HPR).mono ?_
 rintro e w1 ⟨rfl,hw1⟩
 subst hw1
 go_wp2_with fail
 refine (AB HNX).mono ?_
 rintro e w2 ⟨rfl,hb2⟩
 unfold Q4
 obtain ⟨W3,hW3⟩:∃W3,W3=w2.alloc (Obj.cells #[.int .i64 op,.int .i64 ia,.int .i64 ib,.int .i64 im] 89):=⟨_,rfl⟩
 have HW3:=AC hW3
 have hB3:Below w1.heap.size w1 W3:=by rw [hW3];exact hb2.alloc hb2.size _
 have hI3:AG W3 w2.heap.size 89 [.int .i64 op,.int .i64 ia,.int .i64 ib,.int .i64 im]:=by rw [hW3];exact AG.new w2 89 _
 have hg3:w1.grownBy W3 none:=⟨hB3.os,hB3.tape,hB3.output,hB3.size,fun i hi _=>hB3.block i hi⟩
 have hK3:D9 W3 base kb g cap k:=(AB HH).1.below hB3
 have hP3:=(AB HH).2.1.below hB3 hgl
 obtain ⟨NI,hNI⟩:∃NI,NI=w2.heap.size:=⟨_,rfl⟩
 rw [<-hNI] at hI3
 have HB3:=AC hB3
 have HI3:=AC hI3
 have HK3:=AC hK3
 have HP3:=AC hP3
 have HN2:=AC (show w1.heap.size<=NI from by rw [hNI];exact hb2.size)
 clear hW3 hB3 hI3 hg3 hK3 hP3 hb2 HPR HNX c0 c2 c5
 go_upto_region 8 with fail
 rw [<-AB HW3,<-hNI]
 clear HW3 hNI
 have hq:=AB HEQ
 have hh:=AB HH
 have HEND:=AC (show ∀(st:Int) (W:World),Below w1.heap.size w1 W->Calls Tryz.prog 92 #[pq kb 0,.int .i64 1,.int .i64 st] W (MY base kb gp k p st ga W) from fun st W hB=>
  dF base kb g cap gp cp k p aa ga ca st W (hh.1.below hB) hkb hq.1 hq.2.1 hq.2.2.1 hn hh.2.2.1 hh.2.2.2.1 (hh.2.1.below hB hgl) hq.2.2.2.1 hq.2.2.2.2.1 hgk hgg (by have:=hB.size;omega) hak)
 clear hq hh
 by_cases ht:0<tr
 ·have HE:=AC (AB HEND tr W3 (AB HB3))
  have HSO:=AC (show Au p=p.ended tr from (AB HST).trans (if_pos ht))
  go_wp2_with fail
  refine (AB HE).mono ?_
  intro e w4 h4
  obtain rfl:=h4.1
  have HP:=AC (Nx (aa:=aa) (ca:=ca) h4 (AB HB3) (AB HSO) (AB HBS))
  clear h4 HE
  go_wp2
  go_ret
  exact AB HP
 ·have htz:tr=0:=by omega
  subst htz
  obtain ⟨ho1,ho2,ha1,ha2,hb1,hb2⟩:=AB HBD rfl
  obtain ⟨a,rfl⟩:∃a:Nat,ia=(a:Int):=⟨ia.toNat,(Int.toNat_of_nonneg ha1).symm⟩
  obtain ⟨b,rfl⟩:∃b:Nat,ib=(b:Int):=⟨ib.toNat,(Int.toNat_of_nonneg hb1).symm⟩
  have ha:a<16:=by have:((a:Nat):Int)<=15:=ha2;omega
  have hb:b<16:=by have:((b:Nat):Int)<=15:=hb2;omega
  obtain ⟨RA,hRA⟩:∃RA,RA=p.R.getD a 0:=⟨_,rfl⟩
  obtain ⟨RB,hRB⟩:∃RB,RB=p.R.getD b 0:=⟨_,rfl⟩
  have HST2:=AC (show Au p=match DS op im RA RB with
   |some r=>{p with R:=p.R.set a r,pc:=pc4 p}
   |none=>if 14<=op/\op<=17 then (match FA p op im a b with|none=>p.ended 131|some q=>{q with pc:=pc4 p})
    else {p with R:=if op=22 then p.R.set a (pc4 p) else p.R,pc:=Cf op im p.pc RA RB} from by
   rw [hRA,hRB]
   exact (AB HST).trans (if_neg (by decide)))
  have i0:W3.cell? (pK NI 0)=some (.int .i64 op):=(AB HI3).cell rfl
  have i1:W3.cell? (pK NI 1)=some (.int .i64 (a:Int)):=(AB HI3).cell rfl
  have i2:W3.cell? (pK NI 2)=some (.int .i64 (b:Int)):=(AB HI3).cell rfl
  have i3:W3.cell? (pK NI 3)=some (.int .i64 im):=(AB HI3).cell rfl
  have ra:W3.cell? (pK gp (6+a))=some (.int .u64 RA):=by rw [hRA];have:=(AB HP3).reg ha;rwa [zq] at this
  have rb:W3.cell? (pK gp (6+b))=some (.int .u64 RB):=by rw [hRB];have:=(AB HP3).reg hb;rwa [zq] at this
  have xa:(0:Int)<=(a:Int):=by omega
  have ya:(a:Int)<16:=by omega
  have xb:(0:Int)<=(b:Int):=by omega
  have yb:(b:Int)<16:=by omega
  have HRG:=AC (And.intro hRA hRB)
  clear HST HBD ha1 ha2 hb1 hb2 hRA hRB ht hbdn
  go_upto_region 11 with fail
  go_quiet (fail)
  obtain ⟨W4,hW4⟩:∃W4,W4=W3.drewN nq:=⟨_,rfl⟩
  rw [<-hW4]
  have j2:W4.cell? (pK NI 2)=some (.int .i64 (b:Int)):=by rw [hW4];exact i2
  have jb:W4.cell? (pK gp (6+b))=some (.int .u64 RB):=by rw [hW4];exact rb
  have hh4:W4.heap=W3.heap:=by rw [hW4];rfl
  have hb4:Below W3.heap.size W3 W4:=by rw [hW4];exact ⟨rfl,rfl,rfl,zx _,fun _ _=>rfl⟩
  have HH4:=AC hh4
  have HB34:=AC hb4
  clear hW4 hh4 hb4 i0 i1 i2 i3 ra rb
  go_upto_region 12 with fail
  go_quiet (fail)
  obtain ⟨W5,hW5⟩:∃W5,W5=W4.drewN nq:=⟨_,rfl⟩
  rw [<-hW5]
  have hh5:W5.heap=W3.heap:=by rw [hW5];exact AB HH4
  have hb5:Below W3.heap.size W3 W5:=by rw [hW5];exact ⟨(AB HB34).os,(AB HB34).tape,(AB HB34).output,(AB HB34).size,(AB HB34).block⟩
  have hI5:=(AB HI3).heap (W':=W5) hh5
  have HI5:=AC hI5
  have HB5:=AC ((AB HB3).trans (hb5.mono (AB HB3).size))
  have HP5:=AC ((AB HP3).below hb5 (by have:=(AB HB3).size;omega))
  have HK5:=AC ((AB HK3).below hb5)
  have HH5:=AC hh5
  have hrb0:0<=RB:=by rw [(AB HRG).2];exact ((AB HH).2.2.2.2.2 b).1
  have HAL:=AC (dG op (a:Int) (b:Int) im RA RB W5 hrb0 ho1)
  have i0:W5.cell? (pK NI 0)=some (.int .i64 op):=hI5.cell rfl
  have i1:W5.cell? (pK NI 1)=some (.int .i64 (a:Int)):=hI5.cell rfl
  have i2:W5.cell? (pK NI 2)=some (.int .i64 (b:Int)):=hI5.cell rfl
  have i3:W5.cell? (pK NI 3)=some (.int .i64 im):=hI5.cell rfl
  clear hW5 hh5 hb5 hI5 j2 jb HB34 HH4
  go_wp2_with fail
  refine (AB HAL).mono ?_
  rintro e w6 ⟨rfl,hb6⟩
  have HB6:=AC ((AB HB5).trans (hb6.mono (AB HB5).size))
  have hgl5:ga<W5.heap.size:=by have:=(AB HB5).size;omega
  have hP6:=(AB HP5).below hb6 hgl5
  have HP6:=AC hP6
  have HK6:=AC ((AB HK5).below hb6)
  have hI6:=(AB HI5).below hb6 (AB HI5).lt
  have HI6:=AC hI6
  have j0:w6.cell? (pK NI 0)=some (.int .i64 op):=hI6.cell rfl
  have j1:w6.cell? (pK NI 1)=some (.int .i64 (a:Int)):=hI6.cell rfl
  have j2:w6.cell? (pK NI 2)=some (.int .i64 (b:Int)):=hI6.cell rfl
  have j3:w6.cell? (pK NI 3)=some (.int .i64 im):=hI6.cell rfl
  have p5:w6.cell? (pK gp 5)=some (.int .u64 p.pc):=by have:=hP6.row 5 _ rfl;rwa [zq] at this
  have hgl6:ga<w6.heap.size:=by have:=(AB HB6).size;omega
  clear hb6 HAL i0 i1 i2 i3 hP6 hI6
  cases hal:DS op im RA RB with
  |some r=>
   rw [hal] at HST2
   obtain ⟨wn,hwn⟩:∃wn,wn=w6.drew.setCell (pK gp (6+a)) (.int .u64 r):=⟨_,rfl⟩
   have hpd:Ep w6.drew gp 0 p aa ga ca:=(AB HP6).below ⟨rfl,rfl,rfl,zx _,fun _ _=>rfl⟩ hgl6
   have hpn':Ep wn gp 0 {p with R:=p.R.set a r} aa ga ca:=by
    rw [hwn]
    have:=hpd.setReg ha r
    rwa [zq] at this
   have hst:(Instr.storeAt 75 (pq gp (6+a)) (.int .u64 r)).run Tryz.prog w6.drew= .ok () wn:=by
    rw [hwn]
    have c:w6.drew.cell? (pK gp (6+a))=some (.int .u64 (p.R.getD a 0)):=by have:=hpd.reg ha;rwa [zq] at this
    have f:=hpd.fp (6+a)
    clear hpd hpn' hwn HST2 j0 j1 j2 j3 p5
    go_simp
   have q5:wn.cell? (pK gp 5)=some (.int .u64 p.pc):=by have:=hpn'.row 5 _ rfl;rwa [zq] at this
   have g5:=hpn'.fp 5
   have hgn:=AS (zk w6.drew (some gp)) (6+a) (.int .u64 r)
   rw [<-hwn] at hgn
   have HPS:=AC (show Km base kb gp k p aa ga ca w1 (.returned (.int .i64 0)) (wn.setCell (pK gp 5) (.int .u64 (IntKind.u64.wrap (p.pc+4)))) from by
    have hg2:=AS (zk wn (some gp)) 5 (.int .u64 (IntKind.u64.wrap (p.pc+4)))
    have hq:=hpn'.setPC (IntKind.u64.wrap (p.pc+4))
    rw [zq] at hq
    exact JN (AB HB6) hq (AB HST2) (AB HK6) hgk hgg hak hag ⟨hg2.os.trans hgn.os,hg2.tape.trans hgn.tape,hg2.output.trans hgn.output,zh hgn.size hg2.size⟩ (fun b hbl n1 n2=>(hg2.block b (za hbl hgn.size) (by simpa using n1)).trans (hgn.block b hbl (by simpa using n1))))
   have hni:NI≠gp:=by
    have:=zu _ _ ((AB HH).2.1.row 0 _ rfl)
    have:=AB HN2
    simp at*
    omega
   have hSn:wn.cell? (pK NI 1)=some (.int .i64 (a:Int)):=hgn.cell (show w6.drew.cell? (pK NI 1)=_ from j1) (by simpa using hni)
   have RL:=AC (show ∀w':World,w'.cell? (pK NI 1)=some (.int .i64 (a:Int))->(Instr.loadAt 3 (pq NI 1)).run Tryz.prog w'= .ok (.int .i64 (a:Int)) w' from fun w' c=>by
    clear hpd hpn' hwn HST2 j0 j1 j2 j3 p5 q5 g5 hgn hSn hst
    go_simp)
   have RI:=AC (show ∀w':World,(Instr.indexAt 76 (pq gp 6) (.int .i64 (a:Int))).run Tryz.prog w'= .ok (pq gp (6+a)) w' from fun w'=>by
    clear hpd hpn' hwn HST2 j0 j1 j2 j3 p5 q5 g5 hgn hSn hst
    go_simp)
   have HS6:=AC j1
   have HSN:=AC hSn
   have HSS:=AC hst
   clear hpd hpn' hwn hgn hSn hst j0 j1 j2 j3 p5 HST2
   go_upto_region 19 with fail
   refine BA ?_
   intro A hA
   have e6:A.eval (.tmp 6)= pq gp 0:=by rw [hA];rfl
   have e7:A.eval (.tmp 7)= pq NI 0:=by rw [hA];rfl
   have e11:A.eval (.tmp 11)= .int .u64 r:=by rw [hA];rfl
   have esz:A.tmps.size=142:=by rw [hA];rfl
   have HAC:=AC hA
   clear hA
   refine wp_region_held_drew (S:=fun w'=>w'.cell? (pK NI 1)=some (.int .i64 (a:Int))) (by kernel_rfl) (AB HS6) (fun hS=> ?_)
   refine tk 0 (some 95) rfl rfl (by kernel_rfl) (fun _ _ _=>id) (AK rfl _ rfl (pq gp 0) (by simp [AF,AE,esz,e6,e7,e11,AI])) hS ?_
   refine tk 1 (some 96) rfl rfl (by kernel_rfl) (fun _ _ _=>id) (AO rfl _ _ _ rfl (pq NI 0) (by simp [AF,AE,esz,e6,e7,e11,AI]) (pq NI 1) (fun w'=>by go_simp)) hS ?_
   refine tk 2 (some 97) rfl rfl (by kernel_rfl) (fun _ _ _=>id) (AQ rfl _ _ rfl (pK NI 1) (by simp [AF,AE,esz,e6,e7,e11,AI]) (.int .i64 (a:Int)) (AB RL)) hS ?_
   refine tk 3 (some 98) rfl rfl (by kernel_rfl) (fun _ _ _=>id) (AK rfl _ rfl (.int .u64 r) (by simp [AF,AE,esz,e6,e7,e11,AI])) hS ?_
   refine tk 4 (some 99) rfl rfl (by kernel_rfl) (fun _ _ _=>id) (AX rfl _ rfl (pK gp 0) (by simp [AF,AE,esz,e6,e7,e11,AI])) hS ?_
   refine tk 5 (some 100) rfl rfl (by kernel_rfl) (fun _ _ _=>id) (AO rfl _ _ _ rfl (pq gp 0) (by simp [AF,AE,esz,e6,e7,e11,AI]) (pq gp 6) (fun w'=>by go_simp)) hS ?_
   refine tk 6 (some 101) rfl rfl (by kernel_rfl) (fun _ _ _=>id) (BM rfl _ _ _ rfl (pq gp 6) (.int .i64 (a:Int)) (by simp [AF,AE,esz,e6,e7,e11,AI]) (by simp [AF,AE,esz,e6,e7,e11,AI]) (pq gp (6+a)) (AB RI)) hS ?_
   refine Ef ?_
   intro A2 hA2
   have g1:A2.eval (.tmp 101)= pq gp (6+a):=by rw [hA2];simp [AF,AE,esz,e6,e7,e11,AI]
   have g2:A2.eval (.tmp 98)= .int .u64 r:=by rw [hA2];simp [AF,AE,esz,e6,e7,e11,AI]
   have HAC2:=AC hA2
   clear hA2
   refine rdy [7] (by kernel_rfl) (AllReadyH.cons rfl (fun K hK=> ?_) AllReadyH.nil)
   refine De rfl _ (.tmp 101) (.tmp 98) rfl (pK gp (6+a)) (.int .u64 r) g1 g2 (AB HSS) rfl ?_
   refine hK.out _ _ (AB HSN) (fun _=> ?_)
   clear hK K
   refine wpAnyH_done (by kernel_rfl) ?_ _
   rw [AB HAC2,AB HAC]
   simp only [Act.put,zm,zi,zj]
   clear RL RI HS6 HSN HSS HAC HAC2 g1 g2 e6 e7 e11 esz hS
   go_wp2
   go_ret
   exact AB HPS
  |none=>
   rw [hal] at HST2
   by_cases hme:14<=op/\op<=17
   ·rw [if_pos hme] at HST2
    have hh:=AB HH
    have HMY:=AC (VF p op im a b gp 0 aa ga ca w6 (AB HP6) hgl6 hme ha hb hh.2.2.2.2.2 hpn hh.2.2.2.2.1)
    have HME:=AC hme
    have g14:=hme.1
    have g17:=hme.2
    clear hh hme hal
    go_wp2_with fail
    refine (AB HMY).mono ?_
    intro e w7 h7
    unfold Gg at h7
    cases hmo:FA p op im a b with
    |none=>
     rw [hmo] at h7 HST2
     obtain ⟨rfl,hb7⟩:=h7
     have hB7:=(AB HB6).trans (hb7.mono (AB HB6).size)
     have HE:=AC (AB HEND 131 w7 hB7)
     have HB7:=AC hB7
     clear hb7 hB7 HMY hmo
     go_wp2_with fail
     refine (AB HE).mono ?_
     intro e w8 h8
     obtain rfl:=h8.1
     have HP:=AC (Nx (aa:=aa) (ca:=ca) h8 (AB HB7) (AB HST2) (AB HBS))
     clear h8 HE
     go_wp2
     go_ret
     exact AB HP
    |some q=>
     rw [hmo] at h7 HST2
     obtain ⟨rfl,hq7,hs7,ho7,hf7⟩:=h7
     have k5:w7.cell? (pK gp 5)=some (.int .u64 p.pc):=by have:=hq7.row 5 _ rfl;rw [zq] at this;rw [this];show some (Value.int .u64 q.pc)=_;rw [ai hmo]
     have f5:=hq7.fp 5
     have HPS:=AC (show Km base kb gp k p aa ga ca w1 (.returned (.int .i64 0)) (w7.setCell (pK gp 5) (.int .u64 (IntKind.u64.wrap (p.pc+4)))) from by
      have hg2:=AS (zk w7 (some gp)) 5 (.int .u64 (IntKind.u64.wrap (p.pc+4)))
      have hq:=hq7.setPC (IntKind.u64.wrap (p.pc+4))
      rw [zq] at hq
      exact JN (AB HB6) hq (AB HST2) (AB HK6) hgk hgg hak hag ⟨hg2.os.trans ho7.1,hg2.tape.trans ho7.2.1,hg2.output.trans ho7.2.2,zh hs7 hg2.size⟩ (fun b hbl n1 n2=>(hg2.block b (za hbl hs7) (by simpa using n1)).trans (hf7 b hbl n1 n2)))
     clear hq7 hs7 ho7 hf7 hmo HMY j0 j1 j2 j3 p5
     go_wp2
     go_ret
     exact AB HPS
   ·rw [if_neg hme] at HST2
    have h14:=aj ho1 hal
    have h18:18<=op:=by omega
    have h24:op≠24:=AB HEC (by trivial)
    have q24:(op==24)=false:=by simpa using h24
    have n17:¬op<=17:=by omega
    have hbd6:Below w6.heap.size w6 w6.drew:=⟨rfl,rfl,rfl,zx _,fun _ _=>rfl⟩
    have HJ:=AC (YQ op (a:Int) (b:Int) im p.pc RA RB w6.drew h18)
    have hS6:VP NI gp op a b im p.pc w6:=⟨j0,j1,j2,j3,p5⟩
    have RG:=AC (show ∀w':World,VP NI gp op a b im p.pc w'->(Instr.loadAt 89 (pq NI 0)).run Tryz.prog w'= .ok (.agg #[.int .i64 op,.int .i64 (a:Int),.int .i64 (b:Int),.int .i64 im]) w' from fun w' h=>by
     obtain ⟨x0,x1,x2,x3,_⟩:=h
     clear j0 j1 j2 j3 p5 hS6 HST2 hbd6
     go_simp)
    have RP:=AC (show ∀w':World,VP NI gp op a b im p.pc w'->(Instr.loadAt 75 (pq gp 5)).run Tryz.prog w'= .ok (.int .u64 p.pc) w' from fun w' h=>by
     have x:=h.2.2.2.2
     clear j0 j1 j2 j3 p5 hS6 HST2 hbd6
     go_simp)
    have HS6:=AC hS6
    clear hme hal hbd6 hS6 p5 j1 j2 j3
    go_upto_region 14 with fail
    clear j0
    refine BA ?_
    intro A hA
    have e6:A.eval (.tmp 6)= pq gp 0:=by rw [hA];rfl
    have e7:A.eval (.tmp 7)= pq NI 0:=by rw [hA];rfl
    have e9:A.eval (.tmp 9)= .int .u64 RA:=by rw [hA];rfl
    have e10:A.eval (.tmp 10)= .int .u64 RB:=by rw [hA];rfl
    have esz:A.tmps.size=142:=by rw [hA];rfl
    have HAC:=AC hA
    clear hA
    refine wp_region_held_drew (S:=VP NI gp op a b im p.pc) (by kernel_rfl) (AB HS6) (fun hS=> ?_)
    refine tk 0 (some 67) rfl rfl (by kernel_rfl) (fun _ _ _=>id) (AQ rfl _ _ rfl (pK NI 0) (by simp [AF,AE,esz,e6,e7,e9,e10,AI]) (.agg #[.int .i64 op,.int .i64 (a:Int),.int .i64 (b:Int),.int .i64 im]) (AB RG)) hS ?_
    refine tk 1 (some 68) rfl rfl (by kernel_rfl) (fun _ _ _=>id) (AK rfl _ rfl (pq gp 0) (by simp [AF,AE,esz,e6,e7,e9,e10,AI])) hS ?_
    refine tk 2 (some 69) rfl rfl (by kernel_rfl) (fun _ _ _=>id) (AX rfl _ rfl (pK gp 0) (by simp [AF,AE,esz,e6,e7,e9,e10,AI])) hS ?_
    refine tk 3 (some 70) rfl rfl (by kernel_rfl) (fun _ _ _=>id) (AO rfl _ _ _ rfl (pq gp 0) (by simp [AF,AE,esz,e6,e7,e9,e10,AI]) (pq gp 5) (fun w'=>by go_simp)) hS ?_
    refine tk 4 (some 71) rfl rfl (by kernel_rfl) (fun _ _ _=>id) (AQ rfl _ _ rfl (pK gp 5) (by simp [AF,AE,esz,e6,e7,e9,e10,AI]) (.int .u64 p.pc) (AB RP)) hS ?_
    refine tk 5 (some 72) rfl rfl (by kernel_rfl) (fun _ _ _=>id) (AK rfl _ rfl (.int .u64 RA) (by simp [AF,AE,esz,e6,e7,e9,e10,AI])) hS ?_
    refine tk 6 (some 73) rfl rfl (by kernel_rfl) (fun _ _ _=>id) (AK rfl _ rfl (.int .u64 RB) (by simp [AF,AE,esz,e6,e7,e9,e10,AI])) hS ?_
    refine rdy [7] (by kernel_rfl) (AllReadyH.cons rfl (fun K hK=> ?_) AllReadyH.nil)
    refine Bt rfl 107 _ _ rfl #[.agg #[.int .i64 op,.int .i64 (a:Int),.int .i64 (b:Int),.int .i64 im],.int .u64 p.pc,.int .u64 RA,.int .u64 RB] (by simp [AF,AE,esz,e6,e7,e9,e10,AI]) VQ _ (fun e w' h=>⟨_,h.1⟩) (AB HJ) (some 74) rfl ?_
    rintro r w7 ⟨hr7,hb7⟩
    have hb7:Below w6.heap.size w6 w7:=⟨hb7.os,hb7.tape,hb7.output,hb7.size,hb7.block⟩
    have hr7:r= .int .u64 (Cf op im p.pc RA RB):=by injection hr7
    subst hr7
    have hS7:=(AB HS6).below hb7
    refine hK.out _ _ hS7 (fun _=> ?_)
    clear hK K
    refine tk 8 (some 14) rfl rfl (by kernel_rfl) (fun _ _ _=>id) (Ct rfl _ rfl (.int .u64 (Cf op im p.pc RA RB)) (by simp [AF,AE,esz,e6,e7,e9,e10,AI])) hS7 ?_
    refine wpAnyH_done (by kernel_rfl) ?_ _
    rw [AB HAC]
    simp only [Act.put,zm,zi,zj]
    obtain ⟨J,hJ⟩:∃J,J=Cf op im p.pc RA RB:=⟨_,rfl⟩
    rw [<-hJ] at HST2 ⊢
    have HB7:=AC ((AB HB6).trans (hb7.mono (AB HB6).size))
    have HP7:=AC ((AB HP6).below hb7 hgl6)
    have HK7:=AC ((AB HK6).below hb7)
    have hgl7:ga<w7.heap.size:=by have:=(AB HB7).size;omega
    have HS7:=AC hS7
    have l0:w7.cell? (pK NI 0)=some (.int .i64 op):=hS7.1
    clear hS7 hb7 HAC e6 e7 e9 e10 esz hS HJ RG RP HS6 hJ
    by_cases h22:op=22
    ·rw [if_pos h22] at HST2
     have q22:(op==22)=true:=by simpa using h22
     obtain ⟨P4,hP4⟩:∃P4,P4=IntKind.u64.wrap (p.pc+4):=⟨_,rfl⟩
     obtain ⟨wn,hwn⟩:∃wn,wn=w7.drew.setCell (pK gp (6+a)) (.int .u64 P4):=⟨_,rfl⟩
     have hpd:Ep w7.drew gp 0 p aa ga ca:=(AB HP7).below ⟨rfl,rfl,rfl,zx _,fun _ _=>rfl⟩ hgl7
     have hpn':Ep wn gp 0 {p with R:=p.R.set a P4} aa ga ca:=by
      rw [hwn]
      have:=hpd.setReg ha P4
      rwa [zq] at this
     have hst:(Instr.storeAt 75 (pq gp (6+a)) (.int .u64 P4)).run Tryz.prog w7.drew= .ok () wn:=by
      rw [hwn]
      have c:w7.drew.cell? (pK gp (6+a))=some (.int .u64 (p.R.getD a 0)):=by have:=hpd.reg ha;rwa [zq] at this
      have f:=hpd.fp (6+a)
      clear hpd hpn' hwn HST2 l0 h22 q22 hP4
      go_simp
     have q5:wn.cell? (pK gp 5)=some (.int .u64 p.pc):=by have:=hpn'.row 5 _ rfl;rwa [zq] at this
     have g5:=hpn'.fp 5
     have hgn:=AS (zk w7.drew (some gp)) (6+a) (.int .u64 P4)
     rw [<-hwn] at hgn
     have HPS:=AC (show Km base kb gp k p aa ga ca w1 (.returned (.int .i64 0)) (wn.setCell (pK gp 5) (.int .u64 J)) from by
      have hg2:=AS (zk wn (some gp)) 5 (.int .u64 J)
      have hq:=hpn'.setPC J
      rw [zq] at hq
      have hs2:=AB HST2
      unfold pc4 at hs2
      rw [<-hP4] at hs2
      exact JN (AB HB7) hq hs2 (AB HK7) hgk hgg hak hag ⟨hg2.os.trans hgn.os,hg2.tape.trans hgn.tape,hg2.output.trans hgn.output,zh hgn.size hg2.size⟩ (fun b hbl n1 n2=>(hg2.block b (za hbl hgn.size) (by simpa using n1)).trans (hgn.block b hbl (by simpa using n1))))
     have hni:NI≠gp:=by
      have:=zu _ _ ((AB HH).2.1.row 0 _ rfl)
      have:=AB HN2
      simp at*
      omega
     have hS7:w7.cell? (pK NI 1)=some (.int .i64 (a:Int))/\w7.cell? (pK gp 5)=some (.int .u64 p.pc):=⟨(AB HS7).2.1,(AB HS7).2.2.2.2⟩
     have hSn:wn.cell? (pK NI 1)=some (.int .i64 (a:Int))/\wn.cell? (pK gp 5)=some (.int .u64 p.pc):=⟨hgn.cell (show w7.drew.cell? (pK NI 1)=_ from hS7.1) (by simpa using hni),q5⟩
     have RL:=AC (show ∀w':World,(w'.cell? (pK NI 1)=some (.int .i64 (a:Int))/\w'.cell? (pK gp 5)=some (.int .u64 p.pc))->(Instr.loadAt 3 (pq NI 1)).run Tryz.prog w'= .ok (.int .i64 (a:Int)) w' from fun w' c=>by
      have c:=c.1
      clear hpd hpn' hwn HST2 l0 h22 q22 hP4 q5 g5 hgn hSn hS7 hst
      go_simp)
     have RP:=AC (show ∀w':World,(w'.cell? (pK NI 1)=some (.int .i64 (a:Int))/\w'.cell? (pK gp 5)=some (.int .u64 p.pc))->(Instr.loadAt 75 (pq gp 5)).run Tryz.prog w'= .ok (.int .u64 p.pc) w' from fun w' c=>by
      have c:=c.2
      clear hpd hpn' hwn HST2 l0 h22 q22 hP4 q5 g5 hgn hSn hS7 hst RL
      go_simp)
     have RE:=AC (show ∀w':World,((do eqGuard .add 75 (.tmp 84) (.const (.int .u64 4)) (.int .u64 p.pc) (.int .u64 4);binOp .add 75 (.int .u64 p.pc) (.int .u64 4):Sem Value)).run Tryz.prog w'= .ok (.int .u64 P4) w' from fun w'=>by
      rw [hP4]
      clear hpd hpn' hwn HST2 l0 h22 q22 hP4 q5 g5 hgn hSn hS7 hst RL RP
      go_simp)
     have RI:=AC (show ∀w':World,(Instr.indexAt 76 (pq gp 6) (.int .i64 (a:Int))).run Tryz.prog w'= .ok (pq gp (6+a)) w' from fun w'=>by
      clear hpd hpn' hwn HST2 l0 h22 q22 hP4 q5 g5 hgn hSn hS7 hst RL RP RE
      go_simp)
     have HS8:=AC hS7
     have HSN:=AC hSn
     have HSS:=AC hst
     clear hpd hpn' hwn hgn hSn hS7 hst HST2 hP4 h22
     go_upto_region 16 with fail
     refine BA ?_
     intro A hA
     have e6:A.eval (.tmp 6)= pq gp 0:=by rw [hA];rfl
     have e7:A.eval (.tmp 7)= pq NI 0:=by rw [hA];rfl
     have esz:A.tmps.size=142:=by rw [hA];rfl
     have HAC:=AC hA
     clear hA
     refine wp_region_held_drew (S:=fun w'=>w'.cell? (pK NI 1)=some (.int .i64 (a:Int))/\w'.cell? (pK gp 5)=some (.int .u64 p.pc)) (by kernel_rfl) (AB HS8) (fun hS=> ?_)
     refine tk 0 (some 78) rfl rfl (by kernel_rfl) (fun _ _ _=>id) (AK rfl _ rfl (pq gp 0) (by simp [AF,AE,esz,e6,e7,AI])) hS ?_
     refine tk 1 (some 79) rfl rfl (by kernel_rfl) (fun _ _ _=>id) (AO rfl _ _ _ rfl (pq NI 0) (by simp [AF,AE,esz,e6,e7,AI]) (pq NI 1) (fun w'=>by go_simp)) hS ?_
     refine tk 2 (some 80) rfl rfl (by kernel_rfl) (fun _ _ _=>id) (AQ rfl _ _ rfl (pK NI 1) (by simp [AF,AE,esz,e6,e7,AI]) (.int .i64 (a:Int)) (AB RL)) hS ?_
     refine tk 3 (some 81) rfl rfl (by kernel_rfl) (fun _ _ _=>id) (AK rfl _ rfl (pq gp 0) (by simp [AF,AE,esz,e6,e7,AI])) hS ?_
     refine tk 4 (some 82) rfl rfl (by kernel_rfl) (fun _ _ _=>id) (AX rfl _ rfl (pK gp 0) (by simp [AF,AE,esz,e6,e7,AI])) hS ?_
     refine tk 5 (some 83) rfl rfl (by kernel_rfl) (fun _ _ _=>id) (AO rfl _ _ _ rfl (pq gp 0) (by simp [AF,AE,esz,e6,e7,AI]) (pq gp 5) (fun w'=>by go_simp)) hS ?_
     refine tk 6 (some 84) rfl rfl (by kernel_rfl) (fun _ _ _=>id) (AQ rfl _ _ rfl (pK gp 5) (by simp [AF,AE,esz,e6,e7,AI]) (.int .u64 p.pc) (AB RP)) hS ?_
     refine tk 7 (some 85) rfl rfl (by kernel_rfl) (fun _ _ _=>id) (B7 rfl .add _ _ (.tmp 84) (.const (.int .u64 4)) rfl (.int .u64 p.pc) (.int .u64 4) (by simp [AF,AE,esz,e6,e7,AI]) rfl (.int .u64 P4) (AB RE)) hS ?_
     refine tk 8 (some 86) rfl rfl (by kernel_rfl) (fun _ _ _=>id) (AX rfl _ rfl (pK gp 0) (by simp [AF,AE,esz,e6,e7,AI])) hS ?_
     refine tk 9 (some 87) rfl rfl (by kernel_rfl) (fun _ _ _=>id) (AO rfl _ _ _ rfl (pq gp 0) (by simp [AF,AE,esz,e6,e7,AI]) (pq gp 6) (fun w'=>by go_simp)) hS ?_
     refine tk 10 (some 88) rfl rfl (by kernel_rfl) (fun _ _ _=>id) (BM rfl _ _ _ rfl (pq gp 6) (.int .i64 (a:Int)) (by simp [AF,AE,esz,e6,e7,AI]) (by simp [AF,AE,esz,e6,e7,AI]) (pq gp (6+a)) (AB RI)) hS ?_
     refine Ef ?_
     intro A2 hA2
     have g1:A2.eval (.tmp 88)= pq gp (6+a):=by rw [hA2];simp [AF,AE,esz,e6,e7,AI]
     have g2:A2.eval (.tmp 85)= .int .u64 P4:=by rw [hA2];simp [AF,AE,esz,e6,e7,AI]
     have HAC2:=AC hA2
     clear hA2
     refine rdy [11] (by kernel_rfl) (AllReadyH.cons rfl (fun K hK=> ?_) AllReadyH.nil)
     refine De rfl _ (.tmp 88) (.tmp 85) rfl (pK gp (6+a)) (.int .u64 P4) g1 g2 (AB HSS) rfl ?_
     refine hK.out _ _ (AB HSN) (fun _=> ?_)
     clear hK K
     refine wpAnyH_done (by kernel_rfl) ?_ _
     rw [AB HAC2,AB HAC]
     simp only [Act.put,zm,zi,zj]
     clear RL RP RE RI HS8 HSN HSS HAC HAC2 g1 g2 e6 e7 esz hS l0
     go_wp2
     go_ret
     exact AB HPS
    ·rw [if_neg h22] at HST2
     have q22:(op==22)=false:=by simpa using h22
     have k5:w7.cell? (pK gp 5)=some (.int .u64 p.pc):=(AB HS7).2.2.2.2
     have f5:=(AB HP7).fp 5
     have HPS:=AC (show Km base kb gp k p aa ga ca w1 (.returned (.int .i64 0)) (w7.setCell (pK gp 5) (.int .u64 J)) from by
      have hg2:=AS (zk w7 (some gp)) 5 (.int .u64 J)
      have hq:=(AB HP7).setPC J
      rw [zq] at hq
      exact JN (AB HB7) hq (AB HST2) (AB HK7) hgk hgg hak hag ⟨hg2.os,hg2.tape,hg2.output,hg2.size⟩ (fun b hbl n1 n2=>hg2.block b hbl (by simpa using n1)))
     clear h22
     go_wp2
     go_ret
     exact AB HPS
def Ha (p:AP):Int:=if (AH p.PS p.pc).2=0/\(AH p.PS p.pc).1.op=24 then 0 else 1
theorem RM (wb kb gp cp:Nat) (p:AP) (aa:Option Addr) (ga ca:Nat) (w:World) (h1:w.cell? (pK wb 1)=some (pq kb 0)) (h5:w.cell? (pK kb 5)=some (.slice (some (pK gp 0)) 1 cp)) (h:Ep w gp 0 p aa ga ca) (hpid:p.pid=1) (hst:p.st=0) (hpn:p.PS.length<=100000) (hok:∀q∈p.PS,q.bytes.length=256/\AY q.bytes) (hpc:0<=p.pc/\p.pc<=18446744073709551615):
  Calls Tryz.prog 11 #[pq wb 0,.int .i64 1,.int .i64 1] w fun e w'=>e= .returned (.int .i64 (Ha p))/\Below w.heap.size w w':=by
 have c0:w.cell? (pK gp 0)=some (.int .i64 1):=by have:=h.row 0 _ rfl;rwa [zq,hpid] at this
 have c2:w.cell? (pK gp 2)=some (.int .i64 0):=by have:=h.row 2 _ rfl;rwa [zq,hst] at this
 have HPR:=AC (FO kb gp cp w h5 c0)
 have HNX:=AC (No aa ga ca gp 0 p.PS p.pc w ⟨h.row 22 _ rfl,h.row 5 _ rfl⟩ h.aa h.pages hpn hok hpc.1 hpc.2)
 obtain ⟨bo,hbo⟩:∃bo,bo=Ha p:=⟨_,rfl⟩
 rw [<-hbo]
 unfold Ha at hbo
 obtain ⟨NX,hNX⟩:∃NX,NX=AH p.PS p.pc:=⟨_,rfl⟩
 rw [<-hNX] at HNX hbo
 obtain ⟨⟨op,ia,ib,im⟩,tr⟩:=NX
 have HBO:=AC (show bo=if tr=0/\op=24 then 0 else 1 from hbo)
 clear h hpid hst hNX hbo
 go_enter Tryz.func11,Tryz.ntmps11
 go_wp2_with fail
 refine (AB HPR).mono ?_
 rintro e w1 ⟨rfl,hw1⟩
 subst hw1
 go_wp2_with fail
 refine (AB HNX).mono ?_
 rintro e w2 ⟨rfl,hb2⟩
 unfold Q4
 have HB:=AC (show Below w1.heap.size w1 (w2.alloc (Obj.cells #[.int .i64 op,.int .i64 ia,.int .i64 ib,.int .i64 im] 89)) from hb2.alloc hb2.size _)
 clear hb2 HPR HNX c0 c2 h1 h5
 by_cases h0:tr=0
 ·have q0:(tr==0)=true:=by simpa using h0
  by_cases h24:op=24
  ·have q24:(op==24)=true:=by simpa using h24
   have HE:=AC (show bo=0 from (AB HBO).trans (if_pos ⟨h0,h24⟩))
   clear h0 h24
   go_wp2
   go_ret
   exact ⟨by rw [AB HE];rfl,AB HB⟩
  ·have q24:(op==24)=false:=by simpa using h24
   have HE:=AC (show bo=1 from (AB HBO).trans (if_neg (fun q=>h24 q.2)))
   clear h0 h24
   go_wp2
   go_ret
   exact ⟨by rw [AB HE];rfl,AB HB⟩
 ·have q0:(tr==0)=false:=by simpa using h0
  have HE:=AC (show bo=1 from (AB HBO).trans (if_neg (fun q=>h0 q.1)))
  clear h0
  go_wp2
  go_ret
  exact ⟨by rw [AB HE];rfl,AB HB⟩
theorem RO (wb kb gp cp:Nat) (st:Int) (w:World) (h1:w.cell? (pK wb 1)=some (pq kb 0)) (h5:w.cell? (pK kb 5)=some (.slice (some (pK gp 0)) 1 cp)) (c0:w.cell? (pK gp 0)=some (.int .i64 1)) (c2:w.cell? (pK gp 2)=some (.int .i64 2)):
  Calls Tryz.prog 11 #[pq wb 0,.int .i64 1,.int .i64 1] w fun e w'=>e= .returned (.int .i64 1)/\Below w.heap.size w w':=by
 have HPR:=AC (FO kb gp cp w h5 c0)
 go_enter Tryz.func11,Tryz.ntmps11
 go_wp2_with fail
 refine (AB HPR).mono ?_
 rintro e w1 ⟨rfl,hw1⟩
 subst hw1
 go_wp2
 go_ret
 exact ⟨rfl,zw _ _⟩
theorem Oz (kb gp cp:Nat) (w:World) (h5:w.cell? (pK kb 5)=some (.slice (some (pK gp 0)) 1 cp)) (c0:w.cell? (pK gp 0)=some (.int .i64 1)) (c2:w.cell? (pK gp 2)=some (.int .i64 2)):
  Calls Tryz.prog 52 #[pq kb 0,.int .i64 1] w fun e w'=>e= .returned (.int .i64 24)/\Below w.heap.size w w':=by
 have HPR:=AC (FO kb gp cp w h5 c0)
 go_enter Tryz.func52,Tryz.ntmps52
 go_wp2_with fail
 refine (AB HPR).mono ?_
 rintro e w1 ⟨rfl,hw1⟩
 subst hw1
 go_wp2
 go_ret
 exact ⟨rfl,zw _ _⟩
end Go.Proofs.YtdchgbmliojoiaaGreatDoor
