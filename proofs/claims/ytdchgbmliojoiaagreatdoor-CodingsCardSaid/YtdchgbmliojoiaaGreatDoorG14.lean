import Derived.Test.YtdchgbmliojoiaaGreatDoorG03
import Derived.Test.YtdchgbmliojoiaaGreatDoorG07
import Derived.Laws.MakeOwn
set_option maxRecDepth 100000
set_option maxHeartbeats 2000000
set_option linter.unusedVariables false
set_option linter.unusedSimpArgs false
namespace Go.Proofs.YtdchgbmliojoiaaGreatDoor
open Go.RowKit
abbrev Dw:Seg:=⟨0,0,0,0,0⟩
def Hp (x y:Seg):Int:=if x.addr<y.addr then -1 else if y.addr<x.addr then 1 else 0
theorem GW (x y:Seg):Hp x y<0↔x.addr<y.addr:=by
 unfold Hp
 split
 ·simp [*]
 ·split<;>simp [*]
theorem ZY (x:Int) (w:World):Calls Tryz.prog 173 #[.int .u64 x] w fun e w'=>e= .returned (.bool false)/\w'=w:=by
 have h:(x !=x)=false:=by simp
 go_enter Tryz.func173,Tryz.ntmps173
 go_wp2
 go_ret
 exact ⟨rfl,rfl⟩
theorem eQ (x y r:Int) (w:World) (hr:r=if x<y then -1 else if y<x then 1 else 0):Calls Tryz.prog 125 #[.int .u64 x,.int .u64 y] w fun e w'=>e= .returned (.int .i64 r)/\w'=w:=by
 have H:=AC ZY
 by_cases h1:x<y
 ·rw [if_pos h1] at hr
  subst hr
  go_enter Tryz.func125,Tryz.ntmps125
  go_wp2_with (go_at_call 173;refine (AB H _ _).mono ?_;rintro e w' ⟨rfl,rfl⟩)
  go_ret
  exact ⟨rfl,rfl⟩
 ·rw [if_neg h1] at hr
  by_cases h2:y<x
  ·rw [if_pos h2] at hr
   subst hr
   go_enter Tryz.func125,Tryz.ntmps125
   go_wp2_with (go_at_call 173;refine (AB H _ _).mono ?_;rintro e w' ⟨rfl,rfl⟩)
   go_ret
   exact ⟨rfl,rfl⟩
  ·rw [if_neg h2] at hr
   subst hr
   go_enter Tryz.func125,Tryz.ntmps125
   go_wp2_with (go_at_call 173;refine (AB H _ _).mono ?_;rintro e w' ⟨rfl,rfl⟩)
   go_ret
   exact ⟨rfl,rfl⟩
theorem SJ (b off cap:Nat) (x y:Seg) (W:World):Calls Tryz.prog 124 #[.agg (Ay b off cap x).toArray,.agg (Ay b off cap y).toArray] W fun e w'=>e= .returned (.int .i64 (Hp x y))/\∃q os',w'=Go.Sort.grow (W.drewN q) os':=by
 have H:=AC (fun w=>eQ x.addr y.addr (Hp x y) w rfl)
 generalize Hp x y=r at H ⊢
 unfold Ay
 go_enter Tryz.func124,Tryz.ntmps124
 go_wp2_with (go_at_call 125;refine (AB H _).mono ?_;rintro e w' ⟨rfl,rfl⟩)
 go_ret
 exact ⟨rfl,0,_,by rw [Go.Sort.alloc_eq_grow,Go.Sort.alloc_eq_grow,Go.Sort.grow_grow];rfl⟩
theorem If (b off cap:Nat):∀(ss:List Seg) (i j:Nat) (s:Seg),j<5->ss[i]? =some s->(Be b off cap ss)[i*5+j]? =(Ay b off cap s)[j]?
 |[],i,j,s,_,h=>by simp at h
 |x::r,0,j,s,hj,h=>by
  obtain rfl:x=s:=by simpa using h
  rw [Be,List.flatMap_cons,Nat.zero_mul,zq,zp (show j<(Ay b off cap x).length from hj)]
 |x::r,i+1,j,s,hj,h=>by
  have ih:=If b off cap r i j s hj (by simpa using h)
  rw [Be,List.flatMap_cons,zo (show (Ay b off cap x).length<=(i+1)*5+j from by show 5<=_;omega)]
  rw [show (i+1)*5+j-(Ay b off cap x).length=i*5+j from by show (i+1)*5+j-5=_;omega]
  exact ih
section
variable [Inhabited Seg]
theorem SK (b off cap:Nat) (ss:List Seg):Go.Sort.flatK (Ay b off cap) 5 ss.toArray=(Be b off cap ss).toArray:=by
 apply Go.Sort.ext_get!
 ·simp [EC]
 ·intro t ht
  have ht':t<ss.length*5:=by simpa using ht
  rw [Go.Sort.get_flatK _ _ _ _ (by simpa using ht')]
  have hi:t/5<ss.length:=by omega
  have h:=If b off cap ss (t/5) (t%5) ss[t/5] (Nat.mod_lt _ (by omega)) (zz hi)
  rw [show t/5*5+t%5=t from by omega] at h
  have e:ss.toArray[t/5]! =ss[t/5]:=by simp [getElem!_pos,hi]
  rw [e]
  simp only [List.getElem!_toArray,List.getElem!_eq_getElem?_getD,h]
theorem XZ {w:World} {g:Nat} {t:TypeId} {b off cap:Nat} {ss:List Seg} (h:AG w g t (Be b off cap ss)):Go.Sort.HoldsK (Ay b off cap) 5 w g 0 ss.toArray:=by
 unfold Go.Sort.HoldsK
 rw [SK]
 intro j hj
 rw [zq]
 refine ⟨?_,h.frozen j⟩
 have hj':j<(Be b off cap ss).length:=by simpa using hj
 rw [h.cell (zz hj')]
 simp [getElem!_pos,hj']
theorem QW {w:World} {g:Nat} {t:TypeId} {b off cap:Nat} {ss ss':List Seg} (h:AG w g t (Be b off cap ss)) (hl:ss'.length=ss.length) (m:Nat) (os:Array Obj):
  AG (sortWorldK (Ay b off cap) 5 w g 0 m ss'.toArray os) g t (Be b off cap ss')/\w.grownBy (sortWorldK (Ay b off cap) 5 w g 0 m ss'.toArray os) (some g):=by
 have hlt:=h.lt
 have hl2:(Be b off cap ss').length=(Be b off cap ss).length:=by rw [EC,EC,hl]
 unfold sortWorldK Go.Sort.grow Go.Sort.putRowK Go.Sort.putRow Go.Sort.mapBlock Go.Sort.ahead
 rw [SK]
 constructor
 ·unfold AG at h ⊢
  simp only
  rw [Array.getElem?_append_left (by simpa using hlt),Array.getElem?_modify,if_pos rfl,h]
  simp only [Option.map_some,Go.Sort.onCells,Option.some.injEq,Obj.cells.injEq,and_true]
  unfold Go.Sort.putCells
  apply Array.ext
  ·simp [hl2]
  ·intro i h1 h2
   have h2':i<(Be b off cap ss').length:=by simpa using h2
   simp [h2',getElem!_pos]
 ·refine ⟨rfl,rfl,rfl,by simp,fun k hk hne=> ?_⟩
  simp only
  rw [Array.getElem?_append_left (by simpa using hk),Array.getElem?_modify,if_neg (fun e=>hne (by rw [e]))]
end
theorem ZZ:Go.Sort.SWO (ltOf Hp) where
 irrefl x:=by simp only [ltOf,GW];simp
 trans x y z h1 h2:=by simp only [ltOf,GW,decide_eq_true_eq] at*;omega
 ntrans x y z h1 h2:=by simp only [ltOf,GW,decide_eq_false_iff_not] at*;omega
theorem QX (n:Nat) (W:World) (h:n<=12):Calls Tryz.prog 172 #[.int .u64 n] W fun e w'=>(∃l:Int,e= .returned (.int .i64 l))/\w'=W:=
 (Any.bits_Len cR n W (by omega) (by omega)).mono fun _ _ ⟨he,hw⟩=>⟨⟨_,he⟩,hw⟩
theorem Za (b off cap g c:Nat) (ss:List Seg) (w:World) (h:AG w g 270 (Be b off cap ss)) (h8:ss.length<=8):
  Calls Tryz.prog 123 #[.slice (some (pK g 0)) ss.length c,.func (.func 124) #[] #[]] w fun e w'=>
   e= .returned (.tuple #[])/\∃ss':List Seg,ss'.Perm ss/\(∀i j,i<j->j<ss'.length->(ss'.getD i Dw).addr<=(ss'.getD j Dw).addr)/\AG w' g 270 (Be b off cap ss')/\w.grownBy w' (some g):=by
 haveI hinh:Inhabited Seg:=⟨Dw⟩
 have eg:∀args w,(callFunc 124 args).run Tryz.prog w= .ok (.enter 124 args) w:=enters_of Tryz.func124 (by kernel_rfl) rfl
 have hcon:=AnyQ.slices_SortFunc_small_sorted cQ 5 Tryz.isAgg270 Tryz.sizeOf270 (Ay b off cap) (fun _=>rfl) (KD b off cap) Hp 124 #[] ZZ g 0 c ss.toArray w eg (fun _ _ _ _ x y=>SJ b off cap x y _) (XZ h) h.lt (by simp;omega) (fun n W hn=>QX n W hn)
 change Calls Tryz.prog 123 #[.slice (some (pK g 0)) ss.length c,.func (.func 124) #[] #[]] w _ at hcon
 refine hcon.mono ?_
 rintro e w' ⟨he,d',n,os,hp,hs,rfl⟩
 refine ⟨he,d'.toList,?_,?_,?_⟩
 ·have:=hp.2.2
  have hsz:=hp.1
  simp only [List.size_toArray] at this hsz
  rw [show d'.extract 0 ss.length=d' from by rw [<-hsz];simp] at this
  simpa using this
 ·intro i j hij hj
  have hsz:=hp.1
  simp only [List.size_toArray] at hsz
  have:=hs i j (Nat.zero_le _) hij (by simp only [List.size_toArray];simpa [hsz] using hj)
  simp only [ltOf,GW,decide_eq_false_iff_not] at this
  have hj':j<d'.size:=by simpa using hj
  have hi':i<d'.size:=by omega
  rw [getElem!_pos d' j hj',getElem!_pos d' i hi'] at this
  simp only [List.getD,Array.getElem?_toList,Array.getElem?_eq_getElem hj',Array.getElem?_eq_getElem hi',Option.getD_some]
  omega
 ·have hsz:=hp.1
  have:=QW (ss':=d'.toList) h (by simpa using hsz) n os
  simpa using this
def Seg.first (s:Seg):Int:=s.addr/256
def Seg.last (s:Seg):Int:=(s.addr+s.mem-1)/256
def Kz (ss:List Seg) (i:Nat):Prop:=(ss.getD (i+1) Dw).first<=(ss.getD i Dw).last
theorem Ds {w:World} {g:Nat} {t:TypeId} {b off cap:Nat} {ss:List Seg} (h:AG w g t (Be b off cap ss)) (i:Nat) (hi:i<ss.length) (j:Nat) (v:Value) (hj:j<5) (hv:(Ay b off cap (ss.getD i Dw))[j]? =some v):w.cell? (pK g (i*5+j))=some v:=by
 refine h.cell ?_
 rw [If b off cap ss i j (ss.getD i Dw) hj (by simp [List.getD,zz hi])]
 exact hv
theorem SL (b off cap g c:Nat) (ss:List Seg) (w:World) (h:AG w g 270 (Be b off cap ss)) (h8:ss.length<=8) (h1:1<=ss.length):
  Calls Tryz.prog 126 #[.slice (some (pK g 0)) ss.length c] w fun e w'=>
   ((∃i,i+1<ss.length/\Kz ss i)/\e= .returned (.bool true)\/(∀i,i+1<ss.length->¬Kz ss i)/\e= .returned (.bool false))/\w'.heap=w.heap/\Below w.heap.size w w':=by
 have H:=AC h
 clear h
 go_enter Tryz.func126,Tryz.ntmps126
 go_wp2
 go_loopw [3] (fun i wr=>∃k:Nat,k+1<=ss.length/\i= .int .i64 ((k+1:Nat):Int)/\Hid (∀j,j<k->¬Kz ss j)/\wr.heap=w.heap/\Below w.heap.size w wr) (fun i _=>ss.length-(intOf i).toNat)
 case atStart=>exact ⟨0,by omega,rfl,fun j hj=>by omega,rfl,zw _ _⟩
 case round=>
  obtain ⟨k,hk,rfl,HN,hh,hbl⟩:=hrel
  obtain ⟨q,hq⟩:∃q,q=k+1:=⟨_,rfl⟩
  rw [<-hq]
  have HQ:=AC hq
  have HBL:=AC hbl
  have hho:=(AB H).heap hh
  have HH:=AC hh
  by_cases hlt:q<ss.length
  ·have c1:wr.cell? (pK g (q*5+3))=some (.int .i64 (ss.getD q Dw).first):=Ds hho q hlt 3 _ (by omega) rfl
   have c2:wr.cell? (pK g (k*5+4))=some (.int .i64 (ss.getD k Dw).last):=Ds hho k (by omega) 4 _ (by omega) rfl
   have e1:(q:Int)-1=(k:Int):=by omega
   have hq0:(0:Int)<=(q:Int):=by omega
   have hq1:(q:Int)<(ss.length:Int):=by omega
   have hk0:(0:Int)<=(k:Int):=by omega
   have hk1:(k:Int)<(ss.length:Int):=by omega
   have hqe:(q:Int)<=8:=by omega
   have hov:Kz ss k↔(ss.getD q Dw).first<=(ss.getD k Dw).last:=by rw [hq];rfl
   have HOV:=AC hov
   generalize (ss.getD q Dw).first=F at c1 HOV
   generalize (ss.getD k Dw).last=L at c2 HOV
   clear hho hh hbl hq hov
   by_cases hfl:F<=L
   ·go_wp2
    go_quiet (fail)
    go_wp2
    go_ret
    exact ⟨.inl ⟨⟨k,by omega,(AB HOV).2 hfl⟩,rfl⟩,AB HH,⟨(AB HBL).os,(AB HBL).tape,(AB HBL).output,(AB HBL).size,(AB HBL).block⟩⟩
   ·go_wp2
    go_quiet (fail)
    go_wp2
    go_roundw
    case rel=>exact ⟨q,by omega,by go_num,AC (by rw [AB HQ];exact Gw (AB HN) (fun ho=>by (have:=(AB HOV).1 ho;omega))),AB HH,⟨(AB HBL).os,(AB HBL).tape,(AB HBL).output,(AB HBL).size,(AB HBL).block⟩⟩
    case measure=>simp [intOf];omega
  ·have hq1:¬(q:Int)<(ss.length:Int):=by omega
   clear hho hh hbl hq
   go_wp2
   go_ret
   exact ⟨.inr ⟨fun i hi=>(AB HN) i (by have:=AB HQ;omega),rfl⟩,AB HH,AB HBL⟩
def UY (E:Int) (s:Seg):Prop:=bits BinOp.and IntKind.u8 s.perm 1≠0/\s.first<=E/256/\E/256<=s.last
def Pa (E:Int) (ss:List Seg):Prop:=E%4=0/\E<65024/\∃i,i<ss.length/\UY E (ss.getD i Dw)
theorem cT (n:Int) (h0:0<=n) (h1:n<1000000):IntKind.i64.wrap n=n:=by
 simp [IntKind.wrap,IntKind.bits,IntKind.signed];split<;>omega
theorem SM (b off cap g c:Nat) (E:Int) (ss:List Seg) (w:World) (h:AG w g 270 (Be b off cap ss)) (h8:ss.length<=8) (E0:0<=E):
  Calls Tryz.prog 128 #[.int .u64 E,.slice (some (pK g 0)) ss.length c] w fun e w'=>
   (Pa E ss/\e= .returned (.bool true)\/¬Pa E ss/\e= .returned (.bool false))/\Below w.heap.size w w':=by
 have H:=AC h
 have hgl:=h.lt
 clear h
 by_cases q1:E%4=0
 case neg=>
  have f1:(E%4 !=0)=true:=by simpa using q1
  have Q1:=AC q1
  clear q1
  go_enter Tryz.func128,Tryz.ntmps128
  go_wp2
  go_ret
  exact ⟨.inr ⟨fun ho=>AB Q1 ho.1,rfl⟩,zw _ _⟩
 have f1:(E%4 !=0)=false:=by simpa using q1
 have Q1:=AC q1
 clear q1
 by_cases q2:E<65024
 case neg=>
  go_enter Tryz.func128,Tryz.ntmps128
  go_wp2
  go_ret
  exact ⟨.inr ⟨fun ho=>by (have:=ho.2.1;omega),rfl⟩,zw _ _⟩
 obtain ⟨P,hP⟩:∃P,P=E/256:=⟨_,rfl⟩
 have y1:IntKind.i64.wrap (E/256)=P:=by rw [cT _ (by omega) (by omega)];exact hP.symm
 have HP:=AC hP
 clear hP
 go_enter Tryz.func128,Tryz.ntmps128
 go_wp2
 go_loopw [20] (fun i wr=>∃k:Nat,k<=ss.length/\i= .int .i64 k/\Hid (∀j,j<k->¬UY E (ss.getD j Dw))/\Below w.heap.size w wr) (fun i _=>ss.length-(intOf i).toNat)
 case atStart=>exact ⟨0,by omega,rfl,fun j hj=>by omega,zw _ _⟩
 case round=>
  obtain ⟨k,hk,rfl,HN,hbl⟩:=hrel
  have HBL:=AC hbl
  have hho:=(AB H).below hbl hgl
  have hsz:=hbl.size
  by_cases hlt:k<ss.length
  ·obtain ⟨s,hs⟩:∃s,s=ss.getD k Dw:=⟨_,rfl⟩
   have c0:wr.cell? (pK g (k*5))=some (.int .u8 s.perm):=by rw [hs];exact Ds hho k hlt 0 _ (by omega) rfl
   have c1:wr.cell? (pK g (k*5+1))=some (.int .u64 s.addr):=by rw [hs];exact Ds hho k hlt 1 _ (by omega) rfl
   have c2:wr.cell? (pK g (k*5+2))=some (.slice (some (pK b (Gl off cap s))) s.inFile.toNat (cap-s.offs.toNat)):=by rw [hs];exact Ds hho k hlt 2 _ (by omega) rfl
   have c3:wr.cell? (pK g (k*5+3))=some (.int .i64 s.first):=by rw [hs];exact Ds hho k hlt 3 _ (by omega) rfl
   have c4:wr.cell? (pK g (k*5+4))=some (.int .i64 s.last):=by rw [hs];exact Ds hho k hlt 4 _ (by omega) rfl
   have hk0:(0:Int)<=(k:Int):=by omega
   have hk1:(k:Int)<(ss.length:Int):=by omega
   have hent:UY E (ss.getD k Dw)↔(bits BinOp.and IntKind.u8 s.perm 1≠0/\s.first<=P/\P<=s.last):=by rw [<-hs,AB HP];rfl
   have HE:=AC hent
   obtain ⟨X,hX⟩:∃X,X=bits BinOp.and IntKind.u8 s.perm 1:=⟨_,rfl⟩
   rw [<-hX] at HE
   have hX':=hX.symm
   generalize s.first=F at c3 HE
   generalize s.last=L at c4 HE
   generalize s.addr=A at c1
   generalize s.inFile.toNat=FL at c2
   generalize s.offs.toNat=OF at c2
   clear hho hbl hs hent hX
   by_cases t1:X=0
   ·have g1:(X !=0)=false:=by simpa using t1
    clear t1
    go_wp2
    go_roundw
    case rel=>exact ⟨k+1,by omega,by go_num,AC (Gw (AB HN) (fun ho=>by (have:=((AB HE).1 ho).1;simp at g1;exact this g1))),(AB HBL).alloc hsz _⟩
    case measure=>simp [intOf];omega
   ·have g1:(X !=0)=true:=by simpa using t1
    have T1:=AC t1
    clear t1
    by_cases t2:F<=P
    ·by_cases t3:P<=L
     ·go_wp2
      go_ret
      exact ⟨.inl ⟨⟨AB Q1,q2,k,hlt,(AB HE).2 ⟨AB T1,t2,t3⟩⟩,rfl⟩,(AB HBL).alloc hsz _⟩
     ·go_wp2
      go_roundw
      case rel=>exact ⟨k+1,by omega,by go_num,AC (Gw (AB HN) (fun ho=>by (have:=((AB HE).1 ho).2.2;omega))),(AB HBL).alloc hsz _⟩
      case measure=>simp [intOf];omega
    ·go_wp2
     go_roundw
     case rel=>exact ⟨k+1,by omega,by go_num,AC (Gw (AB HN) (fun ho=>by (have:=((AB HE).1 ho).2.1;omega))),(AB HBL).alloc hsz _⟩
     case measure=>simp [intOf];omega
  ·clear hho hbl
   go_wp2
   go_ret
   exact ⟨.inr ⟨fun ho=>by (obtain ⟨_,_,i,hi,he⟩:=ho;exact (AB HN) i (by omega) he),rfl⟩,AB HBL⟩
def Hq (B:List Int) (s:Seg) (at_:Nat):Int:=if s.addr.toNat<=at_/\at_-s.addr.toNat<s.inFile.toNat then B.getD (s.offs.toNat+(at_-s.addr.toNat)) 0 else 0
def CP (B:List Int) (s:Seg) (p:Nat):List Int:=(List.range 256).map fun j=>Hq B s (p*256+j)
theorem GG (B:List Int) (s:Seg) (p:Nat):(CP B s p).length=256:=by simp [CP]
def Dk (B:List Int) (s:Seg) (n:Nat):List Pg:=(List.range n).map fun i=>⟨(s.addr.toNat/256+i:Nat),s.perm,CP B s (s.addr.toNat/256+i)⟩
def BG (PS:List Pg):List Value:=PS.flatMap fun p=>Av p.num p.perm p.bytes
def C7:List Value:=Av 0 0 Aq
theorem EH:C7.length=258:=by rw [C7,CO,Ak]
def DX (B:List Int) (s:Seg) (n k:Nat):List Value:=BG (Dk B s k)++(List.replicate (n-k) C7).flatten
theorem Gp (PS:List Pg) (h:∀p∈PS,p.bytes.length=256):(BG PS).length=PS.length*258:=by
 unfold BG
 induction PS with
 |nil=>rfl
 |cons p r ih=>
  rw [List.flatMap_cons,zn,ih (fun q hq=>h q (List.mem_cons_of_mem _ hq)),CO,h p yr,List.length_cons]
  omega
theorem Hr (B:List Int) (s:Seg) (n:Nat):∀p∈Dk B s n,p.bytes.length=256:=by
 intro p hp
 obtain ⟨i,_,rfl⟩:=yw.1 hp
 exact GG _ _ _
theorem Dv (B:List Int) (s:Seg) (n:Nat):(Dk B s n).length=n:=by simp [Dk]
theorem MK (m:Nat):(List.replicate m C7).flatten.length=m*258:=by
 induction m with
 |zero=>rfl
 |succ m ih=>rw [List.replicate_succ,List.flatten_cons,zn,ih,EH];omega
theorem Oe (B:List Int) (s:Seg) (n k:Nat) (h:k<=n):(DX B s n k).length=n*258:=by
 rw [DX,zn,Gp _ (Hr B s k),Dv,MK];omega
theorem SQ (B:List Int) (s:Seg) (n:Nat):DX B s n n=BG (Dk B s n):=by rw [DX,Nat.sub_self];simp
theorem SS (B:List Int) (s:Seg) (n:Nat):DX B s n 0=(List.replicate n C7).flatten:=by rw [DX,Nat.sub_zero];rfl
def Cm (s:Seg) (k:Nat):Nat:=if k=0 then 0 else Nat.min s.inFile.toNat (k*256-s.addr.toNat%256)
def Ck (s:Seg) (k:Nat):Nat:=if k=0 then s.addr.toNat%256 else 0
def Ew (B:List Int) (s:Seg) (k:Nat):List Int:=(List.range (Nat.min (s.inFile.toNat-Cm s k) (256-Ck s k))).map fun j=>B.getD (s.offs.toNat+Cm s k+j) 0
theorem Fw (B:List Int) (s:Seg) (k:Nat):(Ew B s k).length=Nat.min (s.inFile.toNat-Cm s k) (256-Ck s k):=by simp [Ew]
theorem Jp (s:Seg) (k:Nat):Ck s k<256:=by
 unfold Ck
 have:=Nat.mod_lt s.addr.toNat (show 256>0 by omega)
 split<;>omega
theorem Mz (s:Seg) (k:Nat):Cm s k<=s.inFile.toNat:=by
 unfold Cm
 simp only [Nat.min_def]
 split
 ·omega
 ·split<;>omega
theorem M3 (a b:Nat):(Nat.min a b=a/\a<=b)\/(Nat.min a b=b/\b<=a):=by simp only [Nat.min_def];split<;>omega
theorem K0 (s:Seg) (k:Nat):(k=0/\Ck s k=s.addr.toNat%256/\Cm s k=0)\/(0<k/\Ck s k=0/\(Cm s k=k*256-s.addr.toNat%256/\Cm s k<=s.inFile.toNat\/Cm s k=s.inFile.toNat/\s.inFile.toNat<=k*256-s.addr.toNat%256)):=by
 rcases k with _|k
 ·exact .inl ⟨rfl,rfl,rfl⟩
 ·refine .inr ⟨by omega,rfl,?_⟩
  have e:Cm s (k+1)=Nat.min s.inFile.toNat ((k+1)*256-s.addr.toNat%256):=by rw [Cm,if_neg (by omega)]
  have:=M3 s.inFile.toNat ((k+1)*256-s.addr.toNat%256)
  omega
theorem UZ (s:Seg) (k:Nat):Cm s (k+1)=Cm s k+Nat.min (s.inFile.toNat-Cm s k) (256-Ck s k):=by
 have a:=K0 s k
 have b:=K0 s (k+1)
 have c:=M3 (s.inFile.toNat-Cm s k) (256-Ck s k)
 have r:=Nat.mod_lt s.addr.toNat (show 256>0 by omega)
 omega
theorem Lg (j:Nat):Aq[j]? =if j<256 then some 0 else none:=by rw [Aq,xw]
theorem Ua (B:List Int) (s:Seg) (k:Nat):splice Aq (Ck s k) (Ew B s k)=CP B s (s.addr.toNat/256+k):=by
 have hcl:=Fw B s k
 have hck:∀i,i<Nat.min (s.inFile.toNat-Cm s k) (256-Ck s k)->(Ew B s k)[i]? =some (B.getD (s.offs.toNat+Cm s k+i) 0):=fun i hi=>by
  rw [Ew,ze,xx hi];rfl
 have hM:=M3 (s.inFile.toNat-Cm s k) (256-Ck s k)
 have hK:=K0 s k
 have hs:=Jp s k
 have he:=Mz s k
 have hr:=Nat.mod_lt s.addr.toNat (show 256>0 by omega)
 have hd:=Nat.div_add_mod s.addr.toNat 256
 generalize Nat.min (s.inFile.toNat-Cm s k) (256-Ck s k)=M at*
 generalize Ck s k=S at*
 generalize Cm s k=Ea at*
 have hfit:S+(Ew B s k).length<=Aq.length:=by rw [hcl,Ak];omega
 apply List.ext_getElem?
 intro j
 rw [Dh _ _ _ hfit,hcl,Lg]
 by_cases hj:j<256
 ·have hp:(CP B s (s.addr.toNat/256+k))[j]? =some (Hq B s ((s.addr.toNat/256+k)*256+j)):=by
   rw [CP,ze,xx hj];rfl
  rw [if_pos hj,hp]
  unfold Hq
  generalize s.addr.toNat=A at*
  generalize s.inFile.toNat=F at*
  by_cases h1:j<S
  ·rw [if_pos h1,if_neg (by omega)]
  ·rw [if_neg h1]
   by_cases h2:j<S+M
   ·rw [if_pos h2,hck _ (by omega),if_pos (by omega)]
    congr 2
    omega
   ·rw [if_neg h2,if_neg (by omega)]
 ·rw [if_neg hj,if_neg (by omega),if_neg (by omega)]
  rw [CP,ze,yz (by simp;omega)];rfl
theorem Xb (pre Z post xs:List Value) (a b x y:Value) (o:Nat) (hz:o+xs.length<=Z.length):
  splice (((pre++(a::b::(Z++post))).set pre.length x).set (pre.length+1) y) (pre.length+2+o) xs=pre++(x::y::(splice Z o xs++post)):=by
 have e1:(pre++(a::b::(Z++post))).set pre.length x=pre++(x::b::(Z++post)):=by
  rw [List.set_append_right _ _ (zx _)];simp
 have e2:(pre++(x::b::(Z++post))).set (pre.length+1) y=pre++(x::y::(Z++post)):=by
  rw [List.set_append_right _ _ (by omega)];simp
 rw [e1,e2]
 unfold splice
 have e3:(pre++(x::y::(Z++post))).take (pre.length+2+o)=pre++(x::y::Z.take o):=by
  rw [List.take_append,yh (by omega),show pre.length+2+o-pre.length=o+2 from by omega]
  simp only [List.take_succ_cons]
  rw [yi (by omega)]
 have e4:(pre++(x::y::(Z++post))).drop (pre.length+2+o+xs.length)=Z.drop (o+xs.length)++post:=by
  rw [List.drop_append,List.drop_of_length_le (by omega),show pre.length+2+o+xs.length-pre.length=o+xs.length+2 from by omega]
  simp only [List.drop_succ_cons,yc]
  rw [List.drop_append_of_le_length (by omega)]
 rw [e3,e4];simp
theorem ST (B:List Int) (s:Seg) (n k:Nat) (h:k<n):
  splice (((DX B s n k).set (k*258) (.int .i64 (s.addr.toNat/256+k:Nat))).set (k*258+1) (.int .u8 s.perm)) (k*258+2+Ck s k) (AJ (Ew B s k))=DX B s n (k+1):=by
 have hl:(BG (Dk B s k)).length=k*258:=by rw [Gp _ (Hr B s k),Dv]
 have e1:n-k=(n-(k+1))+1:=by omega
 have e2:Dk B s (k+1)=Dk B s k++[⟨(s.addr.toNat/256+k:Nat),s.perm,CP B s (s.addr.toNat/256+k)⟩]:=by simp [Dk,List.range_succ]
 have hfit:Ck s k+(AJ (Ew B s k)).length<=(AJ Aq).length:=by
  rw [AM,AM,Fw,Ak]
  have:=Jp s k
  simp only [Nat.min_def];split<;>omega
 have hst:=Xb (BG (Dk B s k)) (AJ Aq) (List.replicate (n-(k+1)) C7).flatten (AJ (Ew B s k)) (.int .i64 0) (.int .u8 0) (.int .i64 (s.addr.toNat/256+k:Nat)) (.int .u8 s.perm) (Ck s k) hfit
 rw [hl] at hst
 have e3:DX B s n k=BG (Dk B s k)++(.int .i64 0:: .int .u8 0::(AJ Aq++(List.replicate (n-(k+1)) C7).flatten)):=by
  rw [DX,e1,List.replicate_succ,List.flatten_cons];rfl
 rw [e3,hst,B4,Ua,DX,e2,BG,BG,List.flatMap_append]
 simp [Av]
theorem WP {α:Type} (Z:List α):∀(n t:Nat),t<n*Z.length->(List.replicate n Z).flatten[t]? =Z[t%Z.length]?
 |0,t,h=>by simp at h
 |n+1,t,h=>by
  rw [List.replicate_succ,List.flatten_cons]
  by_cases h1:t<Z.length
  ·rw [zp h1,Nat.mod_eq_of_lt h1]
  ·rw [zo (by omega),WP Z n (t-Z.length) (by rw [Nat.add_mul] at h;omega),<-Nat.mod_eq_sub_mod (by omega)]
theorem KS:(Tryz.prog.info? 166).map (fun i=>(i.zero,i.size,i.bytes))=some (some (.agg C7.toArray),258,272):=by kernel_rfl
theorem Zb (Z:List Value) (m n:Nat) (hZ:Z.length=m) (hm:0<m):madeCells Z.toArray (n*m)=(List.replicate n Z).flatten.toArray:=by
 have hfl:(List.replicate n Z).flatten.length=n*m:=by simp [hZ]
 apply Array.ext
 ·rw [size_madeCells];simp only [List.size_toArray];rw [hfl]
 ·intro i h1 h2
  rw [size_madeCells] at h1
  have hmi:i%m<Z.length:=by rw [hZ];exact Nat.mod_lt _ hm
  have h:=WP Z n i (by rw [hZ];exact h1)
  rw [hZ,zz hmi] at h
  have h2':i<(List.replicate n Z).flatten.length:=by rw [hfl];exact h1
  rw [zz h2'] at h
  have h3:=zr h
  simp only [madeCells,Array.getElem_map,Array.getElem_range,List.size_toArray,hZ,List.getElem_toArray,h3]
  rw [getElem!_pos Z.toArray (i%m) (by simpa using hmi)]
  rfl
theorem Zc (n:Nat):madeCells C7.toArray (n*258)=(List.replicate n C7).flatten.toArray:=Zb C7 258 n EH (by omega)
theorem cV (w:World) (n:Nat) (h:n<=100000):(Instr.makeSlice 160 (.int .i64 n) (.int .i64 n)).run Tryz.prog w= .ok (.slice (some (pK w.heap.size 0)) n n) (w.alloc (.cells (List.replicate n C7).flatten.toArray 166)):=by
 obtain ⟨i,hi,hzz⟩:=Option.map_eq_some_iff.1 KS
 simp only [Prod.mk.injEq] at hzz
 obtain ⟨hz,hs,hb⟩:=hzz
 have hr:=run_make (P:=Tryz.prog) w 160 166 i _ Tryz.underlying160 hi hz .i64 .i64 n n (by omega) (Int.le_refl _) (by rw [hb];omega) (by omega)
 rw [hs,Int.toNat_natCast,show (Value.agg C7.toArray).cells=C7.toArray from rfl,Zc] at hr
 exact hr
structure EI (B:List Int) (s:Seg):Prop where
 addr0:0<=s.addr
 offs0:0<=s.offs
 file0:0<=s.inFile
 mem1:1<=s.mem
 file:s.inFile<=s.mem
 fits:s.offs+s.inFile<=(B.length:Int)
 top:s.addr+s.mem<=65024
def Seg.count (s:Seg):Nat:=(s.last-s.first+1).toNat
theorem Xc {w:World} {b off:Nat} {B:List Int} {s:Seg} (hv:BC w b off B) (hf:EI B s) (k:Nat):∀j v,(AJ (Ew B s k))[j]? =some v->w.cell? (pK b (off+s.offs.toNat+Cm s k+j))=some v:=by
 intro j v hj
 have hl:=(zy.1 hj).1
 rw [AM] at hl
 rw [AT _ _ hl] at hj
 have hl2:=hl
 rw [Fw] at hl2
 have hm:=M3 (s.inFile.toNat-Cm s k) (256-Ck s k)
 have he:=Mz s k
 obtain ⟨_,h2,h3,_,_,h6,_⟩:=hf
 have:=hv (s.offs.toNat+Cm s k+j) (by omega)
 rw [show off+(s.offs.toNat+Cm s k+j)=off+s.offs.toNat+Cm s k+j from by omega] at this
 rw [this,<-hj]
 have hc:(Ew B s k)[j]? =some (B.getD (s.offs.toNat+Cm s k+j) 0):=by rw [Ew,ze,xx hl2];rfl
 simp only [List.getD,hc,Option.getD_some]
theorem Xd (b off cap:Nat) (B:List Int) (s:Seg) (w:World) (hf:EI B s) (hcap:B.length<=cap) (hlen:B.length<=500000) (hv:BC w b off B) (hbw:b<w.heap.size):
  Calls Tryz.prog 129 #[Hh b off cap s] w fun e w'=>e= .returned (.slice (some (pK (w.heap.size+1) 0)) s.count s.count)/\AG w' (w.heap.size+1) 166 (BG (Dk B s s.count))/\Below w.heap.size w w':=by
 have HF:=AC hf
 have HV:=AC hv
 obtain ⟨a0,o0,i0,m1,hfm,hfit,htop⟩:=hf
 obtain ⟨N,hN⟩:∃N,N=s.count:=⟨_,rfl⟩
 rw [<-hN]
 have e0:(s.addr+s.mem-1)/256-s.addr/256+1=(N:Int):=by rw [hN,Seg.count,Seg.last,Seg.first];omega
 have hN1:N<=255:=by omega
 have e5:s.addr%256=((Ck s 0:Nat):Int):=by show _=((s.addr.toNat%256:Nat):Int);omega
 have hmk:=fun w=>cV w N (by omega)
 have hfz:s.addr/256=((s.addr.toNat/256:Nat):Int):=by omega
 have HFZ:=AC hfz
 have HN:=AC hN
 have hcells:Ay b off cap s=[.int .u8 s.perm,.int .u64 s.addr,.slice (some (pK b (Gl off cap s))) s.inFile.toNat (cap-s.offs.toNat),.int .i64 (s.addr/256),.int .i64 ((s.addr+s.mem-1)/256)]:=rfl
 have HCE:=AC hcells
 have HNum:=AC (And.intro hcap (And.intro hlen (And.intro hfit (And.intro o0 (And.intro i0 (And.intro htop (And.intro a0 m1)))))))
 unfold Hh
 clear hv hN hfz hcells a0 o0 i0 m1 hfm hfit htop hcap hlen
 generalize s.addr/256=F1 at*
 generalize (s.addr+s.mem-1)/256=L1 at*
 have y1:(L1-F1+1:Int)=(N:Int):=e0
 have hN2:(N:Int)<=255:=by omega
 have y2:L1-F1=(N:Int)-1:=by omega
 have y3:(N:Int)-1+1=(N:Int):=by omega
 clear e0
 go_enter Tryz.func129,Tryz.ntmps129
 go_wp2
 go_loopw [4,5,22] (fun rest at_ i wr=>∃k:Nat,k<=N/\i= .int .i64 k/\at_= .int .u64 (Ck s k:Nat)/\(∃X:Nat,rest= .slice (some (pK b X)) (s.inFile.toNat-Cm s k) (cap-s.offs.toNat-Cm s k)/\(0<s.inFile.toNat-Cm s k->X=off+s.offs.toNat+Cm s k))/\
   AG wr w.heap.size 270 (Ay b off cap s)/\AG wr (w.heap.size+1) 166 (DX B s N k)/\Below w.heap.size w wr) (fun _ _ i _=>N-(intOf i).toNat)
 case atStart=>
  refine ⟨0,by omega,rfl,?_,⟨Gl off cap s,?_,fun h=> ?_⟩,?_,?_,?_⟩
  ·rw [yn (AB HNum).2.2.2.2.2.2.1,e5]
  ·rfl
  ·have hnm:=AB HNum
   unfold Gl
   rw [if_neg (by have:Cm s 0=0:=rfl;omega)]
   rfl
  ·rw [AB HCE];exact (AG.new _ _ _).alloc _
  ·rw [SS]
   have:=AG.new (w.alloc (.cells (Ay b off cap s).toArray 270)) 166 (List.replicate N C7).flatten
   rw [AB HCE] at this
   simpa using this
  ·exact ((zw _ _).alloc (zx _) _).alloc (by simp) _
 case round=>
  obtain ⟨k,hk,rfl,rfl,⟨X,rfl,hX⟩,hbox,hpg,hbl⟩:=hrel
  have HX:=AC hX
  clear hX
  have HBX:=AC hbox
  have HPG:=AC hpg
  have HBL:=AC hbl
  by_cases hlt:k<N
  ·have bx0:wr.cell? (pK w.heap.size 0)=some (.int .u8 s.perm):=hbox.cell (by rw [AB HCE];rfl)
   have bx3:wr.cell? (pK w.heap.size 3)=some (.int .i64 F1):=hbox.cell (by rw [AB HCE];rfl)
   have hL:=Oe B s N k hk
   have c0:wr.cell? (pK (w.heap.size+1) (k*258))=some ((DX B s N k).getD (k*258) .nilIface):=hpg.cell (by rw [List.getD,zz (by rw [hL];omega)];rfl)
   have f0:=hpg.frozen (k*258)
   obtain ⟨fk,hfk⟩:∃fk:Nat,fk=s.addr.toNat/256+k:=⟨_,rfl⟩
   have z1:F1+(k:Int)=(fk:Int):=by have:=AB HFZ;omega
   have hfk9:(fk:Int)<=1000:=by have:=AB HNum;omega
   have hp1:=hpg.set (k*258) (.int .i64 (fk:Int))
   have c1:(wr.setCell (pK (w.heap.size+1) (k*258)) (.int .i64 (fk:Int))).cell? (pK (w.heap.size+1) (k*258+1))=some (((DX B s N k).set (k*258) (.int .i64 (fk:Int))).getD (k*258+1) .nilIface):=hp1.cell (by rw [List.getD,zz (by rw [yx,hL];omega)];rfl)
   have f1:=hp1.frozen (k*258+1)
   have bx1:(wr.setCell (pK (w.heap.size+1) (k*258)) (.int .i64 (fk:Int))).cell? (pK w.heap.size 0)=some (.int .u8 s.perm):=(hbox.set_other (c:=w.heap.size+1) (by omega) (k*258) (.int .i64 (fk:Int))).cell (by rw [AB HCE];rfl)
   have hp2:=hp1.set (k*258+1) (.int .u8 s.perm)
   have hbox2:=(hbox.set_other (c:=w.heap.size+1) (by omega) (k*258) (.int .i64 (fk:Int))).set_other (c:=w.heap.size+1) (by omega) (k*258+1) (.int .u8 s.perm)
   have hbl2:=(hbl.setCell (p:=(pK (w.heap.size+1) (k*258))) (by show w.heap.size<=w.heap.size+1;omega) (.int .i64 (fk:Int))).setCell (p:=(pK (w.heap.size+1) (k*258+1))) (by show w.heap.size<=w.heap.size+1;omega) (.int .u8 s.perm)
   have HP2:=AC hp2
   have HX2:=AC hbox2
   have HB2:=AC hbl2
   generalize (DX B s N k).getD (k*258) .nilIface=v0 at c0
   generalize ((DX B s N k).set (k*258) (.int .i64 (fk:Int))).getD (k*258+1) .nilIface=v1 at c1
   obtain ⟨S,hS⟩:∃S,S=Ck s k:=⟨_,rfl⟩
   have hS9:=Jp s k
   rw [<-hS] at hS9
   obtain ⟨Ea,hEa⟩:∃E,E=Cm s k:=⟨_,rfl⟩
   have hEl:=Mz s k
   rw [<-hS,<-hEa]
   rw [<-hEa] at hEl
   have HFK:=AC hfk
   have HS:=AC hS
   have HEA:=AC hEa
   have HL:=AC hL
   have hS0:(0:Int)<=(S:Int):=by omega
   have hS1:(S:Int)<=256:=by omega
   have hS2:¬256=S:=by omega
   have hS3:(S:Int)<256:=by omega
   have hk0:(0:Int)<=(k:Int):=by omega
   have hk1:(k:Int)<(N:Int):=by omega
   obtain ⟨R,hR⟩:∃R,R=s.inFile.toNat-Ea:=⟨_,rfl⟩
   obtain ⟨C,hC⟩:∃C,C=cap-s.offs.toNat-Ea:=⟨_,rfl⟩
   rw [<-hR,<-hC]
   obtain ⟨m,hm⟩:∃m,m=(AJ (Ew B s k)).length:=⟨_,rfl⟩
   have hm2:m=Nat.min R (256-S):=by rw [hm,AM,Fw,<-hS,<-hEa,<-hR]
   have hmo:=M3 R (256-S)
   have hRC:R<=C:=by have:=AB HNum;omega
   have hXv:0<R->X=off+s.offs.toNat+Ea:=by rw [hR,hEa];exact AB HX
   have hfit:k*258+2+S+(AJ (Ew B s k)).length<=(((DX B s N k).set (k*258) (.int .i64 (fk:Int))).set (k*258+1) (.int .u8 s.perm)).length:=by
    rw [yx,yx,hL,<-hm];omega
   have hsrc:0<(AJ (Ew B s k)).length->(some (pK (w.heap.size+1) (k*258+2+S)):Option Addr)=some (pK (w.heap.size+1) (k*258+2+S))/\∃ad,(some (pK b X):Option Addr)=some ad/\∀j v,(AJ (Ew B s k))[j]? =some v->((wr.setCell (pK (w.heap.size+1) (k*258)) (.int .i64 (fk:Int))).setCell (pK (w.heap.size+1) (k*258+1)) (.int .u8 s.perm)).cell? (ad.add j)=some v:=
    fun hpos=>⟨rfl,(pK b X),rfl,fun j v hj=>by
     rw [hXv (by omega),CN,hEa]
     exact Xc ((AB HV).below hbl2 hbw) (AB HF) k j v hj⟩
   have hstep:splice (((DX B s N k).set (k*258) (.int .i64 (fk:Int))).set (k*258+1) (.int .u8 s.perm)) (k*258+2+S) (AJ (Ew B s k))=DX B s N (k+1):=by
    rw [hfk,hS];exact ST B s N k hlt
   have hrest:Cm s (k+1)=Ea+m:=by rw [hm2,hR,hEa,hS];exact UZ s k
   have hcn:(AJ (Ew B s k)).length=Nat.min R (256-S):=by rw [<-hm,hm2]
   have hg2:w.heap.size+1<((wr.setCell (pK (w.heap.size+1) (k*258)) (.int .i64 (fk:Int))).setCell (pK (w.heap.size+1) (k*258+1)) (.int .u8 s.perm)).heap.size:=hp2.lt
   have HM:=AC hm
   have HSRC:=AC hsrc
   have HST:=AC hstep
   have HRS:=AC hrest
   have HFT:=AC hfit
   have HCN:=AC hcn
   have HR:=AC hR
   have HC:=AC hC
   have n1:(m:Int)<=(R:Int):=by omega
   have n2:(m:Int)<=(C:Int):=by omega
   obtain ⟨Y,hY1,hY2⟩:∃Y:Nat,(C=m->Y=X)/\(¬C=m->Y=X+m):=by
    by_cases q:C=m
    ·exact ⟨X,fun _=>rfl,fun h=>absurd q h⟩
    ·exact ⟨X+m,fun h=>absurd h q,fun _=>rfl⟩
   have HYV:=AC (show 0<R-m->Y=off+s.offs.toNat+(Ea+m) from fun h=>by
    rw [hY2 (by omega),hXv (by omega)];omega)
   have n4:(0:Int)<=(m:Int):=by omega
   have n5:m<=R:=by omega
   have n6:m<=C:=by omega
   have n7:(R:Int)<=(C:Int):=by omega
   have n8:R<=C:=by omega
   clear hbox hpg hbl hp1 hp2 hbox2 hbl2 hL hfk hS hEa hm hsrc hstep hrest hfit hcn hR hC hm2 hmo hRC hXv
   have HG2:=AC hg2
   clear hg2
   by_cases n3:C=m
   all_goals (
    go_wp2_with (
     refine wpList_copy_splice rfl (.tmp 44) (.tmp 45) 32 32 rfl 5 Tryz.underlying32 Jo (some (pK (w.heap.size+1) (k*258+2+S))) (some (pK b X)) (256-S) (256-S) R C (by rfl) (by rfl) (w.heap.size+1) (k*258+2+S) _ 166 (AB HP2) (AJ (Ew B s k)) (AB HCN) (AB HSRC) (AB HFT) (Dj _) (w.heap.size+1) _ (zw _ _) (zx _) ?_
     intro w3 H3 hb3
     have hp3:AG w3 (w.heap.size+1) 166 (DX B s N (k+1)):=by rw [<-AB HST];exact AB H3
     have hx3:=(AB HX2).below hb3 (by omega)
     have hbl3:=(AB HB2).trans (hb3.mono (Nat.le_succ _))
     have HP3:=AC hp3
     have HX3:=AC hx3
     have HB3:=AC hbl3
     clear hp3 hx3 hbl3 hb3 H3
     rw [<-AB HM])
    go_roundw
    case rel=>
     refine ⟨k+1,by omega,by go_num,rfl,⟨Y,?_,?_⟩,AB HX3,AB HP3,AB HB3⟩
     ·rw [AB HRS,Nat.sub_add_eq,Nat.sub_add_eq,<-AB HR,<-AB HC]
      first
       |(rw [hY1 n3];done)
       |(rw [hY2 n3];done)
       |(simp [hY1 n3,n3];done)
       |(simp [hY2 n3,n3];done)
     ·rw [AB HRS,Nat.sub_add_eq,<-AB HR];exact AB HYV
    case measure=>simp [intOf];omega)
  ·have hkn:k=N:=by omega
   subst hkn
   clear hbox hpg hbl
   go_wp2
   go_ret
   exact ⟨rfl,by rw [<-SQ];exact AB HPG,AB HBL⟩
end Go.Proofs.YtdchgbmliojoiaaGreatDoor
