import Derived.Test.YtdchgbmliojoiaaGreatDoorG03
import Derived.Test.YtdchgbmliojoiaaGreatDoorG04
import Derived.Shelf.Strings.Split
import Derived.Shelf.Small.Strs
import Derived.Shelf.Strings.Prefix
import Derived.Shelf.Strconv.Clone
import Derived.Lib.IndexBytes
import Derived.Lib.SplitLaws
set_option maxRecDepth 1000000
set_option maxHeartbeats 4000000
set_option linter.unusedVariables false
set_option linter.unusedSimpArgs false
namespace Go.Proofs.YtdchgbmliojoiaaGreatDoor
section
open Go Go.RowKit
def isZ:Value->Bool
 | .int .u8 0=>true
 |_=>false
def ZL:List Value->Bool
 |[]=>true
 |v::r=>match isZ v with|true=>ZL r|false=>false
theorem eN {v:Value} (h:isZ v=true):v= .int .u8 0:=by
 unfold isZ at h
 split at h
 ·rfl
 ·cases h
theorem Mi:∀(l:List Value),ZL l=true->l=List.replicate l.length (.int .u8 0)
 |[],_=>rfl
 |v::r,h=>by
  unfold ZL at h
  split at h
  ·rename_i hv
   rw [eN hv,List.length_cons,List.replicate_succ,<-Mi r h]
  ·cases h
theorem cJ:ZL Tryz.zeroCells188.toList=true:=by kernel_rfl
def Ah:List Value:=List.replicate 65792 (.int .u8 0)
theorem Mj:Tryz.zeroCells188=Ah.toArray:=by
 have h:=Mi _ cJ
 have hl:Tryz.zeroCells188.toList.length=65792:=by rw [xu];exact Tryz.zeroCells188_size
 rw [hl] at h
 unfold Ah
 rw [<-h]
theorem LV {α:Type} {l:List Nat} {f g:Nat->List α} (h:∀a∈l,f a=g a):l.flatMap f=l.flatMap g:=by
 induction l with
 |nil=>rfl
 |cons a r ih=>rw [List.flatMap_cons,List.flatMap_cons,h a (by simp),ih (fun b hb=>h b (by simp [hb]))]
theorem LW (n N:Nat) (h:n<N):List.range N=List.range n++n::List.range' (n+1) (N-n-1):=by
 rw [List.range_eq_range',List.range_eq_range',show N=n+(N-n-1+1) by omega,<-List.range'_append_1,zq,List.range'_succ]
 congr 3
 omega
theorem KF {α:Type} (f:Nat->List α) (m:Nat):∀(l:List Nat),(∀j∈l,(f j).length=m)->(l.flatMap f).length=l.length*m
 |[],_=>by simp
 |a::r,h=>by
  rw [List.flatMap_cons,zn,h a (by simp),KF f m r (fun j hj=>h j (by simp [hj])),List.length_cons,Nat.succ_mul,Nat.add_comm]
theorem ZM {α:Type} (f:Nat->List α) (m N:Nat) (hf:∀j,j<N->(f j).length=m) (j k:Nat) (hj:j<N) (hk:k<m):((List.range N).flatMap f)[j*m+k]? =(f j)[k]? :=by
 rw [LW j N hj,List.flatMap_append,List.flatMap_cons]
 have hl:((List.range j).flatMap f).length=j*m:=by rw [KF f m _ (fun i hi=>hf i (by have:=zg.1 hi;omega)),List.length_range]
 rw [zo (by omega),hl,yj,zp (by rw [hf j hj];exact hk)]
theorem Ro {α:Type} (f g:Nat->List α) (m N n:Nat) (r:List α) (hf:∀j,j<N->(f j).length=m) (hr:r.length=m) (hn:n<N) (hg:g n=r) (ho:∀j,j<N->j≠n->g j=f j):splice ((List.range N).flatMap f) (n*m) r=(List.range N).flatMap g:=by
 rw [LW n N hn,List.flatMap_append,List.flatMap_cons,List.flatMap_append,List.flatMap_cons]
 have hl:((List.range n).flatMap f).length=n*m:=by rw [KF f m _ (fun i hi=>hf i (by have:=zg.1 hi;omega)),List.length_range]
 have e1:(List.range n).flatMap g=(List.range n).flatMap f:=by
  refine LV (fun j hj=>ho j ?_ ?_)<;>have:=zg.1 hj<;>omega
 have e2:(List.range' (n+1) (N-n-1)).flatMap g=(List.range' (n+1) (N-n-1)).flatMap f:=by
  refine LV (fun j hj=>ho j ?_ ?_)<;>have:=List.mem_range'_1.1 hj<;>omega
 rw [e1,e2,hg]
 unfold splice
 rw [List.take_left' hl,hr]
 congr 2
 rw [<-ye,List.drop_left' (by rw [zn,hl,hf n hn])]
def Bw (p:Pg):List Value:= .int .u8 p.perm::AJ p.bytes
def ZN:List Value:=List.replicate 257 (.int .u8 0)
def Cv (PS:List Pg) (j:Nat):List Value:=match PS.find? (fun p=>p.num==(j:Int)) with|some p=>Bw p|none=>ZN
def Af (PS:List Pg):List Value:=(List.range 256).flatMap (Cv PS)
structure As (PS:List Pg):Prop where
 sorted:PS.Pairwise (fun p q=>p.num<q.num)
 each:∀p∈PS,0<=p.num/\p.num<256/\1<=p.perm/\p.perm<=255/\p.bytes.length=256
theorem As.pre {PS QS:List Pg} (h:As (PS++QS)):As PS:=⟨(List.pairwise_append.1 h.sorted).1,fun p hp=>h.each p (yt _ hp)⟩
theorem EM {p:Pg} (h:p.bytes.length=256):(Bw p).length=257:=by unfold Bw;rw [List.length_cons,AM,h]
theorem FD {PS:List Pg} (h:∀p∈PS,p.bytes.length=256) (j:Nat):(Cv PS j).length=257:=by
 unfold Cv
 split
 ·rename_i p hp
  exact EM (h p (yq hp))
 ·unfold ZN;exact List.length_replicate
theorem BD {PS:List Pg} (h:∀p∈PS,p.bytes.length=256):(Af PS).length=65792:=by
 unfold Af
 rw [KF _ 257 _ (fun j _=>FD h j),List.length_range]
theorem Mk (z:Value) (m:Nat):∀(l:List Nat),(l.flatMap fun _=>List.replicate m z)=List.replicate (l.length*m) z
 |[]=>by simp
 |a::r=>by rw [List.flatMap_cons,Mk z m r,List.length_cons,Nat.succ_mul,Nat.add_comm (r.length*m),List.replicate_append_replicate]
theorem JA:Af []=Ah:=by
 show (List.range 256).flatMap (fun _=>List.replicate 257 (Value.int .u8 0))=Ah
 rw [Mk,List.length_range]
 rfl
theorem Gz {PS:List Pg} (h:∀p∈PS,p.bytes.length=256) (j k:Nat) (hj:j<256) (hk:k<257):(Af PS)[j*257+k]? =(Cv PS j)[k]? :=ZM _ 257 256 (fun j _=>FD h j) j k hj hk
theorem UL {PS:List Pg} {p:Pg} (h:As (PS++[p])) (n:Nat) (hn:p.num=n):splice (Af PS) (n*257) (Bw p)=Af (PS++[p]):=by
 have hp:=h.each p (by simp)
 have hb:∀q∈PS,q.bytes.length=256:=fun q hq=>(h.each q (by simp [hq])).2.2.2.2
 have hlt:∀q∈PS,q.num<p.num:=fun q hq=>(List.pairwise_append.1 h.sorted).2.2 q hq p (by simp)
 refine Ro _ _ 257 256 n _ (fun j _=>FD hb j) (EM hp.2.2.2.2) (by omega) ?_ (fun j hj hne=> ?_)
 ·unfold Cv
  rw [List.find?_append,show PS.find? (fun q=>q.num==(n:Int))=none from xv.2 (fun q hq=>by have:=hlt q hq;simp;omega)]
  simp [hn]
 ·unfold Cv
  rw [List.find?_append]
  cases hf:PS.find? (fun q=>q.num==(j:Int)) with
  |some q=>rfl
  |none=>
   have:([p].find? (fun q=>q.num==(j:Int)))=none:=xv.2 (fun q hq=>by simp at hq;subst hq;simp;omega)
   rw [this];rfl
def Dy (PS:List Pg) (n:Nat):List Pg:=(List.range n).filterMap (fun j:Nat=>PS.find? (fun p=>p.num==(j:Int)))
theorem Hi (PS:List Pg) (n:Nat):Dy PS (n+1)=Dy PS n++(PS.find? (fun p=>p.num==(n:Int))).toList:=by
 unfold Dy
 rw [List.range_succ,List.filterMap_append]
 cases h:PS.find? (fun p=>p.num==(n:Int))<;>simp [h]
theorem Jj {PS:List Pg} (h:As PS):∀n:Nat,Dy PS n=PS.filter (fun p=>decide (p.num<(n:Int)))
 |0=>by
  unfold Dy
  simp only [List.range_zero,List.filterMap_nil]
  symm
  rw [List.filter_eq_nil_iff]
  intro p hp
  have:=(h.each p hp).1
  simp;omega
 |n+1=>by
  rw [Hi,Jj h n]
  clear Jj
  have hs:=h.sorted
  have h0:∀p∈PS,0<=p.num:=fun p hp=>(h.each p hp).1
  clear h
  induction PS with
  |nil=>rfl
  |cons a r ih=>
   obtain ⟨ha,hr⟩:=List.pairwise_cons.1 hs
   have ih:=ih hr (fun p hp=>h0 p (by simp [hp]))
   by_cases hlt:a.num<(n:Int)
   ·rw [List.filter_cons_of_pos (by simpa using hlt),List.filter_cons_of_pos (by simp;omega),List.find?_cons_of_neg (by simp;omega),List.cons_append,ih]
   ·have hrn:∀q∈r,¬q.num<(n:Int):=fun q hq=>by have:=ha q hq;omega
    by_cases heq:a.num=(n:Int)
    ·rw [List.filter_cons_of_neg (by simpa using hlt),List.filter_cons_of_pos (by simp;omega),List.find?_cons_of_pos (by simpa using heq)]
     have e1:r.filter (fun p=>decide (p.num<(n:Int)))=[]:=List.filter_eq_nil_iff.2 (fun q hq=>by have:=hrn q hq;simpa using this)
     have e2:r.filter (fun p=>decide (p.num<((n+1:Nat):Int)))=[]:=List.filter_eq_nil_iff.2 (fun q hq=>by have:=ha q hq;simp;omega)
     rw [e1,e2];rfl
    ·rw [List.filter_cons_of_neg (by simpa using hlt),List.filter_cons_of_neg (by simp;omega),List.find?_cons_of_neg (by simpa using heq)]
     exact ih
theorem JB {PS:List Pg} (h:As PS):Dy PS 256=PS:=by
 rw [Jj h]
 exact List.filter_eq_self.2 (fun p hp=>by have:=(h.each p hp).2.1;simp;omega)
theorem G0 (PS:List Pg):∀n,(Dy PS n).length<=n
 |0=>by simp [Dy]
 |n+1=>by
  have:=G0 PS n
  rw [Hi,zn]
  cases h:PS.find? (fun p=>p.num==(n:Int))<;>simp<;>omega
def Cx (PS:List Pg) (j:Nat):Int:=match PS.find? (fun p=>p.num==(j:Int)) with|some p=>p.perm|none=>0
theorem Ml (PS:List Pg) (j:Nat):(Cv PS j)[0]? =some (.int .u8 (Cx PS j)):=by
 unfold Cv Cx
 split<;>rfl
theorem KG {PS:List Pg} (h:As PS) (j:Nat):Cx PS j=0/\PS.find? (fun p=>p.num==(j:Int))=none\/1<=Cx PS j/\∃p,p∈PS/\PS.find? (fun p=>p.num==(j:Int))=some p/\Cx PS j=p.perm:=by
 unfold Cx
 cases hf:PS.find? (fun p=>p.num==(j:Int)) with
 |none=>exact .inl ⟨rfl,rfl⟩
 |some p=>exact .inr ⟨(h.each p (yq hf)).2.2.1,p,yq hf,rfl,rfl⟩
theorem Kw (pb so:Nat) (PS:List Pg) (w:World) (hok:As PS) (hc:∀j:Nat,j<256->w.cell? (pK pb (so+j*257))=some (.int .u8 (Cx PS j))):
  Calls Tryz.prog 75 #[pq pb so] w fun e w'=>e= .returned (.int .i64 (PS.length:Nat))/\w'=w:=by
 have HC:=AC hc
 have HOK:=AC hok
 clear hc hok
 go_enter Tryz.func75,Tryz.ntmps75
 go_wp2
 go_loopw [3,5] (fun c i wr=>∃j:Nat,j<=256/\i= .int .i64 j/\c= .int .i64 ((Dy PS j).length:Nat)/\wr=w) (fun _ i _=>256-(intOf i).toNat)
 case atStart=>exact ⟨0,by omega,rfl,rfl,rfl⟩
 case round=>
  obtain ⟨j,hj,rfl,rfl,rfl⟩:=hrel
  by_cases hlt:j<256
  ·have hcell:=AB HC j hlt
   have hj0:(0:Int)<=(j:Int):=by omega
   have hj1:(j:Int)<256:=by omega
   have hl:=G0 PS j
   have hs:=Hi PS j
   obtain ⟨n,hn⟩:∃n,n=(Dy PS j).length:=⟨_,rfl⟩
   obtain ⟨v,hv⟩:∃v,v=Cx PS j:=⟨_,rfl⟩
   rw [<-hn] at hl ⊢
   rw [<-hv] at hcell
   have hn2:(n:Int)<=256:=by omega
   rcases KG (AB HOK) j with ⟨h1,h2⟩|⟨h1,p,_,h2,_⟩
   ·have HE:=AC (show (Dy PS (j+1)).length=n by rw [hs,h2,hn];simp)
    have k0:v=0:=by omega
    subst k0
    clear hs hn hv h1 h2 hl
    go_wp2
    exact ⟨⟨j+1,by omega,by simp,by rw [AB HE],trivial⟩,by simp only [intOf];omega⟩
   ·have HE:=AC (show (Dy PS (j+1)).length=n+1 by rw [hs,h2,hn];simp)
    have k0:(v==0)=false:=by simp;omega
    clear hs hn h1 h2 hl
    clear hv
    go_wp2
    exact ⟨⟨j+1,by omega,by simp,by rw [AB HE];simp,trivial⟩,by simp only [intOf];omega⟩
  ·have:j=256:=by omega
   subst this
   rw [JB (AB HOK)]
   go_wp2
   go_ret
   exact ⟨rfl,rfl⟩
end
section
open Go.Shelf
def XM:Go.Shelf.Ren:=⟨fun|146=>168|221=>209|268=>281|138=>282|143=>283|195=>347|197=>348|218=>349|219=>350|260=>386|217=>222|225=>387|224=>388|267=>389|266=>289|314=>424|n=>n,fun|9=>9|31=>31|3=>3|4=>4|0=>0|105=>473|21=>21|5=>5|46=>29|119=>136|139=>560|138=>559|146=>561|51=>386|n=>n,fun|1=>3|3=>4|4=>5|n=>n⟩
theorem split:Go.Proofs.Lays.n146 Tryz.prog XM:={
 mixed:=by kernel_rfl
 f138:=Tryz.func282.trans (congrArg some (by kernel_rfl))
 f143:=Tryz.func283.trans (congrArg some (by kernel_rfl))
 f146:=Tryz.func168.trans (congrArg some (by kernel_rfl))
 f195:=Tryz.func347.trans (congrArg some (by kernel_rfl))
 f197:=Tryz.func348.trans (congrArg some (by kernel_rfl))
 f217:=Tryz.func222.trans (congrArg some (by kernel_rfl))
 f218:=Tryz.func349.trans (congrArg some (by kernel_rfl))
 f219:=Tryz.func350.trans (congrArg some (by kernel_rfl))
 f221:=Tryz.func209.trans (congrArg some (by kernel_rfl))
 f224:=Tryz.func388.trans (congrArg some (by kernel_rfl))
 f225:=Tryz.func387.trans (congrArg some (by kernel_rfl))
 f260:=Tryz.func386.trans (congrArg some (by kernel_rfl))
 f266:=Tryz.func289.trans (congrArg some (by kernel_rfl))
 f267:=Tryz.func389.trans (congrArg some (by kernel_rfl))
 f268:=Tryz.func281.trans (congrArg some (by kernel_rfl))
 f314:=Tryz.func424.trans (congrArg some (by kernel_rfl))
 t0:=Tryz.underlying0
 a0:=Tryz.isAgg0
 z0:=Tryz.sizeOf0
 v0:=Tryz.zeroValue0
 t3:=Tryz.underlying3
 a3:=Tryz.isAgg3
 z3:=Tryz.sizeOf3
 v3:=Tryz.zeroValue3
 t4:=Tryz.underlying4
 a4:=Tryz.isAgg4
 z4:=Tryz.sizeOf4
 v4:=Tryz.zeroValue4
 t5:=Tryz.underlying5
 a5:=Tryz.isAgg5
 z5:=Tryz.sizeOf5
 v5:=Tryz.zeroValue5
 t9:=Tryz.underlying9
 a9:=Tryz.isAgg9
 z9:=Tryz.sizeOf9
 v9:=Tryz.zeroValue9
 t21:=Tryz.underlying21
 a21:=Tryz.isAgg21
 z21:=Tryz.sizeOf21
 v21:=Tryz.zeroValue21
 t31:=Tryz.underlying31
 a31:=Tryz.isAgg31
 z31:=Tryz.sizeOf31
 v31:=Tryz.zeroValue31
 t46:=Tryz.underlying29
 a46:=Tryz.isAgg29
 z46:=Tryz.sizeOf29
 v46:=Tryz.zeroValue29
 t51:=Tryz.underlying386
 a51:=Tryz.isAgg386
 z51:=Tryz.sizeOf386
 v51:=Tryz.zeroValue386
 t105:=Tryz.underlying473
 a105:=Tryz.isAgg473
 z105:=Tryz.sizeOf473
 v105:=Tryz.zeroValue473
 t119:=Tryz.underlying136
 a119:=Tryz.isAgg136
 z119:=Tryz.sizeOf136
 t138:=Tryz.underlying559
 a138:=Tryz.isAgg559
 z138:=Tryz.sizeOf559
 v138:=Tryz.zeroValue559
 t139:=Tryz.underlying560
 a139:=Tryz.isAgg560
 z139:=Tryz.sizeOf560
 v139:=Tryz.zeroValue560
 t146:=Tryz.underlying561
 a146:=Tryz.isAgg561
 z146:=Tryz.sizeOf561
 v146:=Tryz.zeroValue561
 g1:=by kernel_rfl
 g3:=by kernel_rfl
 g4:=by kernel_rfl}
def Ob:Go.Shelf.Ren:=⟨fun|99=>167|206=>208|n=>n,fun|9=>9|4=>4|3=>3|n=>n,fun|n=>n⟩
theorem hasPrefix:Go.Proofs.Lays.n99 Tryz.prog Ob:={
 mixed:=by kernel_rfl
 f99:=Tryz.func167.trans (congrArg some (by kernel_rfl))
 f206:=Tryz.func208.trans (congrArg some (by kernel_rfl))
 t3:=Tryz.underlying3
 a3:=Tryz.isAgg3
 z3:=Tryz.sizeOf3
 v3:=Tryz.zeroValue3
 t4:=Tryz.underlying4
 a4:=Tryz.isAgg4
 z4:=Tryz.sizeOf4
 v4:=Tryz.zeroValue4
 t9:=Tryz.underlying9
 a9:=Tryz.isAgg9
 z9:=Tryz.sizeOf9
 v9:=Tryz.zeroValue9}
def Oc:Go.Shelf.Ren:=⟨fun|137=>175|217=>222|266=>289|n=>n,fun|9=>9|5=>5|3=>3|n=>n,fun|n=>n⟩
theorem indexByte:Go.Proofs.Lays.n137 Tryz.prog Oc:={
 mixed:=by kernel_rfl
 f137:=Tryz.func175.trans (congrArg some (by kernel_rfl))
 f217:=Tryz.func222.trans (congrArg some (by kernel_rfl))
 f266:=Tryz.func289.trans (congrArg some (by kernel_rfl))
 t3:=Tryz.underlying3
 a3:=Tryz.isAgg3
 z3:=Tryz.sizeOf3
 v3:=Tryz.zeroValue3
 t5:=Tryz.underlying5
 a5:=Tryz.isAgg5
 z5:=Tryz.sizeOf5
 v5:=Tryz.zeroValue5
 t9:=Tryz.underlying9
 a9:=Tryz.isAgg9
 z9:=Tryz.sizeOf9
 v9:=Tryz.zeroValue9}
def UU:Go.Shelf.Ren:=⟨fun|316=>207|n=>n,fun|9=>9|3=>3|4=>4|37=>32|0=>0|127=>403|5=>5|n=>n,fun|n=>n⟩
theorem eP:Go.Proofs.LaysM.n316 Tryz.prog UU:={
 mixed:=by kernel_rfl
 f316:=Tryz.func207.trans (congrArg some (by kernel_rfl))
 t0:=Tryz.underlying0
 a0:=Tryz.isAgg0
 z0:=Tryz.sizeOf0
 v0:=Tryz.zeroValue0
 t3:=Tryz.underlying3
 a3:=Tryz.isAgg3
 z3:=Tryz.sizeOf3
 v3:=Tryz.zeroValue3
 t4:=Tryz.underlying4
 a4:=Tryz.isAgg4
 z4:=Tryz.sizeOf4
 v4:=Tryz.zeroValue4
 t9:=Tryz.underlying9
 a9:=Tryz.isAgg9
 z9:=Tryz.sizeOf9
 v9:=Tryz.zeroValue9
 t37:=Tryz.underlying32
 a37:=Tryz.isAgg32
 z37:=Tryz.sizeOf32
 v37:=Tryz.zeroValue32
 t127:=Tryz.underlying403
 a127:=Tryz.isAgg403
 z127:=Tryz.sizeOf403
 v127:=Tryz.zeroValue403
 t5:=Tryz.underlying5
 a5:=Tryz.isAgg5
 z5:=Tryz.sizeOf5
 v5:=Tryz.zeroValue5
 i0:=by kernel_rfl
 i3:=by kernel_rfl
 i4:=by kernel_rfl
 i5:=by kernel_rfl
 i9:=by kernel_rfl
 i37:=by kernel_rfl
 i127:=by kernel_rfl}
end
section
open Go Go.RowKit
theorem Jn:∀(l word:List UInt8),∃h t,parts l word=h::t
 |[],word=>⟨word,[],rfl⟩
 |c::r,word=>by
  unfold parts
  split
  ·exact ⟨word,parts r [],rfl⟩
  ·exact Jn r (word++[c])
theorem Mq:∀(l u v h:List UInt8) (t:List (List UInt8)),parts l v=h::t->parts l (u++v)=(u++h)::t
 |[],u,v,h,t,e=>by
  have e1:v=h/\[]=t:=by simpa [parts] using e
  obtain ⟨rfl,rfl⟩:=e1
  rfl
 |c::r,u,v,h,t,e=>by
  unfold parts at e ⊢
  split
  ·rename_i hc
   rw [if_pos hc] at e
   have e1:v=h/\parts r []=t:=by simpa using e
   obtain ⟨rfl,rfl⟩:=e1
   rfl
  ·rename_i hc
   rw [if_neg hc] at e
   rw [ye]
   exact Mq r u (v++[c]) h t e
theorem Lc:∀l:List UInt8,(47:UInt8)∈l->Lib.indexByte l 47= -1->False
 |[],h,_=>by simp at h
 |b::l,h,hi=>by
  unfold Lib.indexByte at hi
  split at hi
  ·exact absurd hi (by decide)
  ·rename_i hb
   split at hi
   ·rename_i h1
    have:(47:UInt8)∈l:=by
     rcases List.mem_cons.1 h with e|e
     ·exact absurd (by simp [e]) hb
     ·exact e
    exact Lc l this (by simpa using h1)
   ·rename_i h1
    have hge:=Lib.indexByte_ge l 47
    have:¬Lib.indexByte l 47= -1:=by simpa using h1
    omega
theorem Ld:∀l:List UInt8,Lib.splitK [47] 0 (l.count 47) l=parts l []
 |[]=>rfl
 |b::l=>by
  have ih:=Ld l
  by_cases hb:b=47
  ·subst hb
   have hc:List.count (47:UInt8) (47::l)=List.count 47 l+1:=by simp
   rw [hc]
   unfold Lib.splitK
   have hi:Lib.index (47::l) [47]=0:=by rw [Lib.index_one];simp [Lib.indexByte]
   rw [hi,if_neg (by decide)]
   show []::Lib.splitK [47] 0 (List.count 47 l) l=_
   rw [ih]
   conv=>rhs;unfold parts
   rw [if_pos rfl]
  ·have hc:List.count (47:UInt8) (b::l)=List.count 47 l:=List.count_cons_of_ne hb
   rw [hc]
   obtain ⟨h,t,he⟩:=Jn l []
   have hp:parts (b::l) []=(b::h)::t:=by
    conv=>lhs;unfold parts
    rw [if_neg hb]
    have:=Mq l [b] [] h t he
    simpa using this
   rw [hp]
   rw [he] at ih
   cases hk:List.count (47:UInt8) l with
   |zero=>
    rw [hk] at ih
    have e1:l=h/\[]=t:=by simpa [Lib.splitK] using ih
    obtain ⟨rfl,rfl⟩:=e1
    rfl
   |succ k=>
    rw [hk] at ih
    unfold Lib.splitK at ih ⊢
    have hge:=Lib.indexByte_ge l 47
    rw [Lib.index_one] at ih
    have hib:Lib.index (b::l) [47]=if Lib.indexByte l 47== -1 then -1 else Lib.indexByte l 47+1:=by
     rw [Lib.index_one]
     conv=>lhs;unfold Lib.indexByte
     rw [if_neg (by simpa using hb)]
    rw [hib]
    split at ih
    ·rename_i h1
     exfalso
     have hno:Lib.indexByte l 47= -1:=by simpa using h1
     have hm:(47:UInt8)∈l:=List.count_pos_iff.1 (by omega)
     exact Lc l hm hno
    ·rename_i h1
     rw [if_neg h1]
     have hn1:¬Lib.indexByte l 47= -1:=by simpa using h1
     obtain ⟨i,hi⟩:∃i:Nat,Lib.indexByte l 47=i:=⟨(Lib.indexByte l 47).toNat,by omega⟩
     rw [hi] at ih ⊢
     rw [if_neg (by simp;omega)]
     have e1:l.take i=h/\Lib.splitK [47] 0 k (l.drop (i+1))=t:=by simpa using ih
     obtain ⟨rfl,rfl⟩:=e1
     have e2:((i:Int)+1).toNat=i+1:=by omega
     rw [e2]
     rfl
theorem UV (b:ByteArray):IM b.data.toList=b:=by
 cases b;simp [IM]
theorem Rz {s:ByteArray} (h0:s.data.toList[0]? =some 47):Lib.splitB ⟨#[47]⟩ 0 (Lib.countB s ⟨#[47]⟩) s=ByteArray.empty::An s:=by
 have h1:=Lib.splitB_data ⟨#[47]⟩ 0 (Lib.countB s ⟨#[47]⟩) s
 have h2:Lib.countB s ⟨#[47]⟩=s.data.toList.count 47:=Lib.count_one 47 s.data.toList
 rw [h2] at h1 ⊢
 have h3:Lib.splitK [47] 0 (s.data.toList.count 47) s.data.toList=parts s.data.toList []:=Ld _
 have h4:(Lib.splitB ⟨#[47]⟩ 0 (s.data.toList.count 47) s).map (·.data.toList)=parts s.data.toList []:=h1.trans h3
 have h5:=congrArg (List.map IM) h4
 rw [List.map_map,show IM∘(fun b:ByteArray=>b.data.toList)=id from by funext b;exact UV b,List.map_id] at h5
 rw [h5]
 unfold An
 cases hl:s.data.toList with
 |nil=>rw [hl] at h0;cases h0
 |cons c r=>
  rw [hl] at h0
  obtain rfl:c=47:=by simpa using h0
  conv=>lhs;unfold parts
  rw [if_pos rfl]
  rfl
theorem Ia:∀(l word:List UInt8),(∀c∈word,c≠47)->∀p∈parts l word,∀c∈p,c≠47
 |[],word,h,p,hp,c,hc=>by
  have:p=word:=by simpa [parts] using hp
  subst this
  exact h c hc
 |d::r,word,h,p,hp,c,hc=>by
  unfold parts at hp
  split at hp
  ·rcases List.mem_cons.1 hp with rfl|hp
   ·exact h c hc
   ·exact Ia r [] (by simp) p hp c hc
  ·rename_i hd
   refine Ia r (word++[d]) (fun x hx=> ?_) p hp c hc
   rcases List.mem_append.1 hx with h1|h1
   ·exact h x h1
   ·have:x=d:=by simpa using h1
    subst this;exact hd
def JF (s:ByteArray):Bool:=decide (1<=s.size)&&decide (s.size<=14)&& !(s.toList==[46])&& !(s.toList==[46,46])&&decide (Lib.indexByte s.data.toList 0<0)
theorem Mr:∀l:List UInt8,decide (Lib.indexByte l 0<0)=l.all (fun c=>c !=0)
 |[]=>rfl
 |b::l=>by
  have ih:=Mr l
  have hge:=Lib.indexByte_ge l 0
  unfold Lib.indexByte
  rw [List.all_cons,<-ih]
  by_cases hb:b=0
  ·subst hb;rfl
  ·rw [if_neg (by simpa using hb)]
   have e:(b !=0)=true:=by simpa using hb
   rw [e,Bool.true_and]
   split
   ·rename_i h1
    have:Lib.indexByte l 0= -1:=by simpa using h1
    rw [this]
   ·rename_i h1
    have:¬Lib.indexByte l 0= -1:=by simpa using h1
    exact decide_eq_decide.2 (by omega)
theorem UW {s:ByteArray} (h:∀c∈s.data.toList,c≠47):JF s=Bc s:=by
 unfold JF Bc JE
 rw [Mr]
 congr 1
 apply Bool.eq_iff_iff.2
 simp only [zb,Bool.and_eq_true,bne_iff_ne]
 exact ⟨fun h1 c hc=>⟨h1 c hc,h c hc⟩,fun h1 c hc=>(h1 c hc).1⟩
theorem R8 {s p:ByteArray} (h:p∈An s):JF p=Bc p:=by
 refine UW (fun c hc=> ?_)
 obtain ⟨q,hq,rfl⟩:=yw.1 h
 exact Ia _ [] (by simp) q hq c (by simpa [IM] using hc)
theorem QQ (s:ByteArray) (w:World) (hs:s.size<=maxLen):Calls Tryz.prog 169 #[.string s] w fun e w'=>e= .returned (.bool (JF s))/\w'=w:=by
 have HX:=AC (show Calls Tryz.prog 175 #[.string s,.int .u8 0] w fun e w'=>e= .returned (.int .i64 (Lib.indexByte s.data.toList 0))/\w'=w from Go.Proofs.Any.strings_IndexByte indexByte s 0 w)
 unfold JF
 obtain ⟨I,hI⟩:∃I,I=Lib.indexByte s.data.toList 0:=⟨_,rfl⟩
 rw [<-hI] at HX ⊢
 clear hI
 have hmx:(s.size:Int)<=9223372036854775807:=by unfold maxLen at hs;omega
 by_cases h1:1<=s.size
 case neg=>
  have e1:decide (1<=s.size)=false:=decide_eq_false h1
  have e2:¬(1:Int)<=(s.size:Int):=by omega
  rw [e1]
  clear h1 hs e1
  go_enter Tryz.func169,Tryz.ntmps169
  go_wp2
  go_ret
  exact ⟨rfl,rfl⟩
 have e1:decide (1<=s.size)=true:=decide_eq_true h1
 have i1:(1:Int)<=(s.size:Int):=by omega
 by_cases h2:s.size<=14
 case neg=>
  have e2:decide (s.size<=14)=false:=decide_eq_false h2
  have i2:¬(s.size:Int)<=14:=by omega
  rw [e1,e2]
  clear h1 h2 hs e1 e2
  go_enter Tryz.func169,Tryz.ntmps169
  go_wp2
  go_ret
  exact ⟨rfl,rfl⟩
 have e2:decide (s.size<=14)=true:=decide_eq_true h2
 have i2:(s.size:Int)<=14:=by omega
 rw [e1,e2]
 cases h3:(s.toList==[46]) with
 |true=>
  clear h1 h2 hs e1 e2
  go_enter Tryz.func169,Tryz.ntmps169
  go_wp2
  go_ret
  exact ⟨rfl,rfl⟩
 |false=>
  cases h4:(s.toList==[46,46]) with
  |true=>
   clear h1 h2 hs e1 e2
   go_enter Tryz.func169,Tryz.ntmps169
   go_wp2
   go_ret
   exact ⟨rfl,rfl⟩
  |false=>
   clear h1 h2 hs e1 e2
   go_enter Tryz.func169,Tryz.ntmps169
   go_wp2_with fail
   refine (AB HX).mono ?_
   rintro e w' ⟨rfl,rfl⟩
   go_wp2
   go_ret
   exact ⟨rfl,rfl⟩
end
section
open Go.RowKit
theorem fu (c d:Int) (c1:0<=c) (c2:c<=255) (d1:0<=d) (d2:d<=255):bits BinOp.or IntKind.u16 c (d*256)=c+d*256:=by
 rw [u16_or c (d*256) c1 (by omega) (by omega) (by omega)]
 have e:(d*256).toNat=2^8*d.toNat:=by omega
 rw [e,Nat.or_comm,<-Nat.two_pow_add_eq_or_of_lt (by omega)]
 omega
theorem Wa (n:Int):IntKind.i16.wrap n=(n+32768)%65536-32768:=by simp [IntKind.wrap,IntKind.bits,IntKind.signed];split<;>omega
theorem ex (n:Int):wrap64 (IntKind.i16.wrap n)=IntKind.i16.wrap n:=by rw [Wa];unfold wrap64;omega
theorem YF (c0 c1 c2 c3:Int) (w:World) (h1:1<=c0) (h2:c0<=24) (a1:0<=c1) (a2:c1<=255) (b1:0<=c2) (b2:c2<=255) (m1:0<=c3) (m2:c3<=255):
  Calls Tryz.prog 45 #[.agg #[.int .u8 c0,.int .u8 c1,.int .u8 c2,.int .u8 c3]] w fun e w'=>e= .returned (.tuple #[.agg #[.int .i64 c0,.int .i64 (c1/16),.int .i64 (c1%16),.int .i64 (IntKind.i16.wrap (c2+c3*256))],.bool true])/\Below w.heap.size w w':=by
 rw [<-ex (c2+c3*256)]
 go_enter Tryz.func45,Tryz.ntmps45
 go_wp2
 exact bodyPost_ret (v:= .tuple #[.agg #[.int .i64 c0,.int .i64 (c1/16),.int .i64 (c1%16),.int .i64 (wrap64 (IntKind.i16.wrap (c2+c3*256)))],.bool true]) (by simp [results,Tryz.results45,go_sem]) rfl ⟨rfl,((zw _ _).alloc (zx _) _).alloc (by simp) _⟩
theorem aJ (c0 c1 c2 c3:Int) (w:World) (h:c0<1\/24<c0):
  Calls Tryz.prog 45 #[.agg #[.int .u8 c0,.int .u8 c1,.int .u8 c2,.int .u8 c3]] w fun e w'=>e= .returned (.tuple #[.agg #[.int .i64 0,.int .i64 0,.int .i64 0,.int .i64 0],.bool false])/\Below w.heap.size w w':=by
 by_cases o1:1<=c0<;>by_cases o2:c0<=24
 all_goals first
  |(exfalso;omega)
  |(clear h
    go_enter Tryz.func45,Tryz.ntmps45
    go_wp2
    all_goals exact bodyPost_ret (v:= .tuple #[.agg #[.int .i64 0,.int .i64 0,.int .i64 0,.int .i64 0],.bool false]) (by simp [results,Tryz.results45,go_sem]) rfl ⟨rfl,((zw _ _).alloc (zx _) _).alloc (by simp) _⟩)
theorem aV (c0 c1 c2 c3:Int) (w:World) (h1:1<=c0) (h2:c0<=24) (a1:0<=c1) (a2:c1<=255) (b1:0<=c2) (b2:c2<=255) (m1:0<=c3) (m2:c3<=255):
  Calls Tryz.prog 245 #[.agg #[.int .u8 c0,.int .u8 c1,.int .u8 c2,.int .u8 c3]] w fun e w'=>e= .returned (.tuple #[.agg #[.int .u8 c0,.int .i64 (c1/16),.int .i64 (c1%16),.int .i16 (IntKind.i16.wrap (c2+c3*256))],.nilIface])/\Below w.heap.size w w':=by
 rw [<-fu c2 c3 b1 b2 m1 m2]
 go_enter Tryz.func245,Tryz.ntmps245
 go_wp2
 exact bodyPost_ret (v:= .tuple #[.agg #[.int .u8 c0,.int .i64 (c1/16),.int .i64 (c1%16),.int .i16 (IntKind.i16.wrap (bits BinOp.or IntKind.u16 c2 (c3*256)))],.nilIface]) (by simp [results,Tryz.results245,go_sem]) rfl ⟨rfl,((zw _ _).alloc (zx _) _).alloc (by simp) _⟩
theorem dC (c0 c1 c2 c3:Int) (w:World) (h:c0<1\/24<c0):
  Calls Tryz.prog 245 #[.agg #[.int .u8 c0,.int .u8 c1,.int .u8 c2,.int .u8 c3]] w fun e w'=>e= .returned (.tuple #[.agg #[.int .u8 0,.int .i64 0,.int .i64 0,.int .i16 0],.iface 47 (.int .i64 1)])/\Below w.heap.size w w':=by
 by_cases o1:1<=c0<;>by_cases o2:c0<=24
 all_goals first
  |(exfalso;omega)
  |(clear h
    go_enter Tryz.func245,Tryz.ntmps245
    go_wp2
    exact bodyPost_ret (v:= .tuple #[.agg #[.int .u8 0,.int .i64 0,.int .i64 0,.int .i16 0],.iface 47 (.int .i64 1)]) (by simp [results,Tryz.results245,go_sem]) rfl ⟨rfl,((zw _ _).alloc (zx _) _).alloc (by simp) _⟩)
end
end Go.Proofs.YtdchgbmliojoiaaGreatDoor
