import Derived.Test.YtdchgbmliojoiaaGreatDoorG01
import Derived.Laws.Bits64
import Derived.Laws.BitsAllLaws
import Derived.Deep.AppendLies
import Derived.Laws.Strings2
import Derived.Deep.MidRow
import Derived.Laws.BytesArg
set_option maxRecDepth 100000
set_option maxHeartbeats 1000000
set_option linter.unusedVariables false
set_option linter.unusedSimpArgs false
namespace Go.Proofs.YtdchgbmliojoiaaGreatDoor
open Go.RowKit
def AW (B:List Int) (p:Nat):Nat->Int
 |0=>0
 |k+1=>B.getD p 0+256*AW B (p+1) k
def AY (B:List Int):Prop:=∀j,0<=B.getD j 0/\B.getD j 0<=255
theorem KC {B:List Int} (hB:AY B):∀(k p:Nat),0<=AW B p k/\AW B p k<256^k
 |0,p=>by simp [AW]
 |k+1,p=>by
  have h1:=KC hB k (p+1)
  have h2:=hB p
  rw [AW,Int.pow_succ]
  omega
theorem cF:∀k:Fin 9,(256:Int)^k.val<=18446744073709551616:=by decide
theorem cG:∀k:Fin 8,(256:Int)^k.val<=72057594037927936:=by decide
theorem BH {B:List Int} (hB:AY B) (p k:Nat) (hk:k<=8):0<=AW B p k/\AW B p k<18446744073709551616:=by
 have h:=KC hB k p
 have:=cF ⟨k,by omega⟩
 simp only at this
 omega
theorem WI {B:List Int} (hB:AY B) (p k:Nat) (hk:k<=7):0<=AW B p k/\AW B p k<72057594037927936:=by
 have h:=KC hB k p
 have:=cG ⟨k,by omega⟩
 simp only at this
 omega
theorem ZG (n c:Int) (h0:0<=n) (h1:n<72057594037927936) (c0:0<=c) (c1:c<=255):IntKind.u64.wrap (n*256)=n*256/\bits BinOp.or IntKind.u64 (n*256) c=c+256*n/\IntKind.u64.wrap (n*256+c)=c+256*n:=by
 refine ⟨by rw [ym];omega,?_,by rw [ym];omega⟩
 rw [u64_or (n*256) c (by omega) (by omega) c0 (by omega)]
 have e:(n*256).toNat=2^8*n.toNat:=by omega
 rw [e,<-Nat.two_pow_add_eq_or_of_lt (by omega)]
 omega
def BC (w:World) (b off:Nat) (B:List Int):Prop:=∀j,j<B.length->w.cell? (pK b (off+j))=some (.int .u8 (B.getD j 0))
theorem BC.below {w w':World} {b off:Nat} {B:List Int} (h:BC w b off B) (hb:Below w.heap.size w w') (hlt:b<w.heap.size):BC w' b off B:=
 fun j hj=>by rw [hb.cell (p:=(pK b (off+j))) hlt];exact h j hj
theorem JU (b off k cap:Nat) (B:List Int) (p:Nat) (w:World) (hB:AY B) (hk:k<=8) (hc:∀j,j<k->w.cell? (pK b (off+j))=some (.int .u8 (B.getD (p+j) 0))):
  Calls Tryz.prog 174 #[.slice (some (pK b off)) k cap] w fun e w'=>e= .returned (.int .u64 (AW B p k))/\w'=w:=by
 have HB:=AC hB
 have HC:=AC hc
 clear hB hc
 go_enter Tryz.func174,Tryz.ntmps174
 go_wp2
 go_loop [3,4] (fun n i=>∃j:Nat,j<=k/\i= .int .i64 ((j:Int)-1)/\n= .int .u64 (AW B (p+j) (k-j))) (fun _ i=>(intOf i+1).toNat)
 case atStart=>exact ⟨k,zx _,rfl,by rw [Nat.sub_self];rfl⟩
 case round=>
  obtain ⟨j,hj,rfl,rfl⟩:=hrel
  rcases j with _|i
  ·go_wp2
   go_ret
   exact ⟨rfl,rfl⟩
  ·have hci:=(AB HC) i (by omega)
   have hcb:=(AB HB) (p+i)
   have hn:=WI (AB HB) (p+(i+1)) (k-(i+1)) (by omega)
   have st:AW B (p+i) (k-i)=B.getD (p+i) 0+256*AW B (p+(i+1)) (k-(i+1)):=by
    rw [show k-i=k-(i+1)+1 from by omega,AW];rfl
   generalize AW B (p+(i+1)) (k-(i+1))=n at*
   generalize B.getD (p+i) 0=c at*
   have e1:(((i+1:Nat):Int)-1)=(i:Int):=by omega
   rw [e1]
   obtain ⟨y1,y2,y3⟩:=ZG n c hn.1 hn.2 hcb.1 hcb.2
   have y0:IntKind.u64.wrap c=c:=by rw [ym];omega
   have HS:=AC st
   clear st e1 hn hcb
   go_wp2
   go_round
   case rel=>exact ⟨i,by omega,rfl,by rw [AB HS]⟩
   case measure=>simp [intOf]
theorem BF (b off k cap:Nat) (B:List Int) (p:Nat) (w:World) (hB:AY B) (hk:k<=8) (hc:∀j,j<k->w.cell? (pK b (off+j))=some (.int .u8 (B.getD (p+j) 0))):
  Calls Tryz.prog 102 #[.slice (some (pK b off)) k cap] w fun e w'=>e= .returned (.int .u64 (AW B p k))/\w'=w:=by
 have HB:=AC hB
 have HC:=AC hc
 clear hB hc
 go_enter Tryz.func102,Tryz.ntmps102
 go_wp2
 go_loop [3,4] (fun n i=>∃j:Nat,j<=k/\i= .int .i64 ((j:Int)-1)/\n= .int .u64 (AW B (p+j) (k-j))) (fun _ i=>(intOf i+1).toNat)
 case atStart=>exact ⟨k,zx _,rfl,by rw [Nat.sub_self];rfl⟩
 case round=>
  obtain ⟨j,hj,rfl,rfl⟩:=hrel
  rcases j with _|i
  ·go_wp2
   go_ret
   exact ⟨rfl,rfl⟩
  ·have hci:=(AB HC) i (by omega)
   have hcb:=(AB HB) (p+i)
   have hn:=WI (AB HB) (p+(i+1)) (k-(i+1)) (by omega)
   have st:AW B (p+i) (k-i)=B.getD (p+i) 0+256*AW B (p+(i+1)) (k-(i+1)):=by
    rw [show k-i=k-(i+1)+1 from by omega,AW];rfl
   generalize AW B (p+(i+1)) (k-(i+1))=n at*
   generalize B.getD (p+i) 0=c at*
   have e1:(((i+1:Nat):Int)-1)=(i:Int):=by omega
   rw [e1]
   obtain ⟨y1,y2,y3⟩:=ZG n c hn.1 hn.2 hcb.1 hcb.2
   have y0:IntKind.u64.wrap c=c:=by rw [ym];omega
   have HS:=AC st
   clear st e1 hn hcb y2
   go_wp2
   go_round
   case rel=>exact ⟨i,by omega,rfl,by rw [AB HS]⟩
   case measure=>simp [intOf]
theorem CJ (b off cap:Nat) (B:List Int) (p k:Nat) (w:World) (hB:AY B) (hk:k<=8) (hk0:0<k) (hp:p+k<=B.length) (hcap:B.length<=cap) (hlen:B.length<=1000000) (hv:BC w b off B):
  Calls Tryz.prog 127 #[.slice (some (pK b off)) B.length cap,.int .i64 p,.int .i64 k] w fun e w'=>e= .returned (.int .u64 (AW B p k))/\w'=w:=by
 have H:=AC (JU b (off+p) k (cap-p) B p w hB hk (fun j hj=>by rw [Nat.add_assoc];exact hv (p+j) (by omega)))
 obtain ⟨q,hq⟩:∃q,q=p+k:=⟨_,rfl⟩
 have e1:(p:Int)+(k:Int)=(q:Int):=by omega
 have e2:¬cap=p:=by omega
 have e3:q-p=k:=by omega
 have e4:(p:Int)<=(q:Int):=by omega
 have e5:(q:Int)<=(cap:Int):=by omega
 have e6:p<=q:=by omega
 have e7:q<=cap:=by omega
 have e8:(q:Int)<=1000000:=by omega
 clear hB hv hq
 go_enter Tryz.func127,Tryz.ntmps127
 go_wp2_with fail
 refine (AB H).mono ?_
 rintro e w1 ⟨rfl,hw1⟩
 subst hw1
 go_wp2
 go_ret
 exact ⟨rfl,rfl⟩
def JE (s:ByteArray):Bool:=s.data.toList.all (fun c=>c !=0&&c !=47)
def Bc (s:ByteArray):Bool:=decide (1<=s.size)&&decide (s.size<=14)&& !(s.toList==[46])&& !(s.toList==[46,46])&&JE s
theorem PX (c:UInt8):((c.toNat:Int)==0)=(c==0):=by
 by_cases h:c=0
 ·subst h;rfl
 ·have h1:(c==0)=false:=by simpa using h
  rw [h1]
  have h2:c.toNat≠0:=fun e=>h (UInt8.toNat_inj.1 e)
  simp;omega
theorem Hk (c:UInt8):((c.toNat:Int)==47)=(c==47):=by
 by_cases h:c=47
 ·subst h;rfl
 ·have h1:(c==47)=false:=by simpa using h
  rw [h1]
  have h2:c.toNat≠47:=fun e=>h (UInt8.toNat_inj.1 e)
  simp;omega
theorem KM (s:ByteArray) (j:Nat) (h:j<s.size):s.data.toList[j]? =some s[j]:=by
 have h2:j<s.data.toList.length:=by simpa using h
 rw [zz h2];rfl
theorem ZR {l:List UInt8} {f:UInt8->Bool} (h:∀j,j<l.length->∀c,l[j]? =some c->f c=true):l.all f=true:=by
 rw [zb]
 intro c hc
 obtain ⟨j,hj,rfl⟩:=List.mem_iff_getElem.1 hc
 exact h j hj _ (zz hj)
theorem WK {l:List UInt8} {f:UInt8->Bool} {j:Nat} {c:UInt8} (h:l[j]? =some c) (hf:f c=false):l.all f=false:=by
 rw [List.all_eq_false]
 exact ⟨c,zv h,by rw [hf];decide⟩
theorem JW (s:ByteArray) (w:World) (hs:s.size<=1000):Calls Tryz.prog 176 #[.string s] w fun e w'=>e= .returned (.bool (Bc s))/\w'=w:=by
 by_cases h1:1<=s.size
 case neg=>
  have hr:Bc s=false:=by simp [Bc];omega
  rw [hr]
  clear hr
  go_enter Tryz.func176,Tryz.ntmps176
  go_wp2
  go_ret
  exact ⟨rfl,rfl⟩
 by_cases h2:s.size<=14
 case neg=>
  have hr:Bc s=false:=by simp [Bc];omega
  rw [hr]
  clear hr
  go_enter Tryz.func176,Tryz.ntmps176
  go_wp2
  go_ret
  exact ⟨rfl,rfl⟩
 by_cases h3:(s.toList==[46])=true
 ·have hr:Bc s=false:=by simp [Bc,h3]
  rw [hr]
  clear hr
  go_enter Tryz.func176,Tryz.ntmps176
  go_wp2
  go_ret
  exact ⟨rfl,rfl⟩
 have h3':(s.toList==[46])=false:=by simpa using h3
 by_cases h4:(s.toList==[46,46])=true
 ·have hr:Bc s=false:=by simp [Bc,h4]
  rw [hr]
  clear hr h3
  go_enter Tryz.func176,Tryz.ntmps176
  go_wp2
  go_ret
  exact ⟨rfl,rfl⟩
 have h4':(s.toList==[46,46])=false:=by simpa using h4
 have hr:Bc s=JE s:=by simp [Bc,h1,h2,h3',h4']
 rw [hr]
 clear h3 h4 hr
 go_enter Tryz.func176,Tryz.ntmps176
 go_wp2
 go_loop [3] (fun i=>∃k:Nat,k<=s.size/\i= .int .i64 k/\Hid (∀j,j<k->∀c,s.data.toList[j]? =some c->(c !=0&&c !=47)=true)) (fun i=>s.size-(intOf i).toNat)
 case atStart=>exact ⟨0,by omega,rfl,AC (fun j hj=>by omega)⟩
 case round=>
  obtain ⟨k,hk,rfl,HA⟩:=hrel
  by_cases hlt:k<s.size
  ·have hd:=KM s k hlt
   by_cases c1:s[k]=0
   ·have g1:((s[k].toNat:Int)==0)=true:=by rw [PX,c1];rfl
    have hr:JE s=false:=WK hd (by rw [c1];rfl)
    have HR:=AC hr
    clear hd hr c1
    go_wp2
    go_ret
    exact ⟨by rw [AB HR];rfl,rfl⟩
   have g1:((s[k].toNat:Int)==0)=false:=by rw [PX];simpa using c1
   by_cases c2:s[k]=47
   ·have g2:((s[k].toNat:Int)==47)=true:=by rw [Hk,c2];rfl
    have hr:JE s=false:=WK hd (by rw [c2];rfl)
    have HR:=AC hr
    clear hd hr c1 c2
    go_wp2
    go_ret
    exact ⟨by rw [AB HR];rfl,rfl⟩
   have g2:((s[k].toNat:Int)==47)=false:=by rw [Hk];simpa using c2
   have HN:Hid (∀j,j<k+1->∀c,s.data.toList[j]? =some c->(c !=0&&c !=47)=true):=AC (fun j hj c hc=>by
    rcases Nat.lt_succ_iff_lt_or_eq.1 hj with h|h
    ·exact AB HA j h c hc
    ·subst h
     rw [hd] at hc
     obtain rfl:=zr hc
     simp [c1,c2])
   clear hd c1 c2
   go_wp2
   go_round
   case rel=>exact ⟨k+1,by omega,by go_num,HN⟩
   case measure=>simp [intOf];omega
  ·have hsl:s.data.toList.length=s.size:=by simp
   have hr:JE s=true:=ZR (fun j hj c hc=>AB HA j (by omega) c hc)
   have HR:=AC hr
   clear hr hsl
   go_wp2
   go_ret
   exact ⟨by rw [AB HR];rfl,rfl⟩
def parts:List UInt8->List UInt8->List (List UInt8)
 |[],word=>[word]
 |c::r,word=>if c=47 then word::parts r [] else parts r (word++[c])
def IM (l:List UInt8):ByteArray:=⟨l.toArray⟩
def An (s:ByteArray):List ByteArray:=(parts (s.data.toList.drop 1) []).map IM
def Ar (s:ByteArray):Option (List ByteArray):=
 if 60<s.size\/s.size=0\/s.data.toList[0]?≠some 47 then none
 else if s.size=1 then some []
 else if (An s).all Bc=true then some (An s) else none
theorem Ru (a b:ByteArray):(a++b).data.toList=a.data.toList++b.data.toList:=by simp
theorem Rv (s:ByteArray) (k:Nat) (h:k<s.size):(s.extract k (k+1)).data.toList=[s[k]]:=by
 rw [ByteArray.data_extract]
 have h2:k<s.data.size:=h
 rw [Array.toList_extract]
 simp [List.extract]
 rw [List.drop_eq_getElem_cons (by simpa using h2)]
 simp
 rfl
theorem WL {s:ByteArray} (h1:s.size=1) (h:s.data.toList[0]? =some 47):(s.toList==[47])=true:=by
 rw [ByteArray.toList_eq]
 have hl:s.data.toList.length=1:=by simpa using h1
 match hx:s.data.toList,hl with
 |[c],_=>
  rw [hx] at h
  have:c=47:=by simpa using h
  subst this;rfl
theorem WM {s:ByteArray} (h1:¬s.size=1):(s.toList==[47])=false:=by
 rw [ByteArray.toList_eq,beq_eq_false_iff_ne]
 intro h
 have hl:s.data.toList.length=s.size:=by simp
 rw [h] at hl
 exact h1 hl.symm
def CV (l:List ByteArray):List Value:=l.map Value.string
theorem Rw (l:List UInt8) (i:Nat) (word:List UInt8) (h:l[i]? =some 47):parts (l.drop i) word=word::parts (l.drop (i+1)) []:=by
 have hi:=(zy.1 h).1
 rw [List.drop_eq_getElem_cons hi,parts,if_pos (by rw [zz hi] at h;exact zr h)]
theorem UP (l:List UInt8) (i:Nat) (word:List UInt8) (c:UInt8) (h:l[i]? =some c) (hc:c≠47):parts (l.drop i) word=parts (l.drop (i+1)) (word++[c]):=by
 have hi:=(zy.1 h).1
 have e:l[i]=c:=by rw [zz hi] at h;exact zr h
 rw [List.drop_eq_getElem_cons hi,parts,e,if_neg hc]
theorem cN:(Tryz.prog.info? 9).map (fun i=>(i.zero,i.size,i.bytes))=some (some (.string ByteArray.empty),1,16):=by kernel_rfl
theorem Eu {P:Program} {t:TypeId} {z:Value} {a b:Nat} (h:(P.info? t).map (fun i=>(i.zero,i.size,i.bytes))=some (some z,a,b)):∃i,P.info? t=some i/\i.zero=some z/\i.size=a/\i.bytes=b:=by
 obtain ⟨i,hi,h2⟩:=Option.map_eq_some_iff.1 h
 simp only [Prod.mk.injEq] at h2
 exact ⟨i,hi,h2.1,h2.2.1,h2.2.2⟩
theorem PY {s:ByteArray} (h1:s.size<=60) (h2:¬s.size=0) (h5:¬s.size=1) {c:UInt8} (hd:s.data.toList[0]? =some c) (hc:c=47) {D:List ByteArray} {W:ByteArray} (h:∃r,An s=D++W::r) (hn:Bc W=false):Ar s=none:=by
 unfold Ar
 rw [if_neg (by rintro (h|h|h);omega;omega;exact h (by rw [hd,hc])),if_neg h5,if_neg]
 obtain ⟨r,h⟩:=h
 rw [h,List.all_append,List.all_cons,hn]
 simp
def XH (s:ByteArray) (w:World) (e:Ending) (w':World):Prop:=
 (Ar s=none/\e= .returned (.tuple #[.slice none 0 0,.bool false])\/∃l,Ar s=some l/\∃v,e= .returned (.tuple #[v,.bool true])/\w'.ownsRow w.heap.size 9 1 v l.length (CV l))/\Below w.heap.size w w'
theorem QM (s:ByteArray) (w:World) (hs:s.size<=maxLen):Calls Tryz.prog 133 #[.string s] w fun e w'=>XH s w e w':=by
 unfold maxLen at hs
 by_cases h1:s.size<=60
 case neg=>
  have hr:Ar s=none:=by unfold Ar;rw [if_pos (.inl (by omega))]
  have HR:=AC hr
  clear hr
  go_enter Tryz.func133,Tryz.ntmps133
  go_wp2
  go_ret2
  exact ⟨.inl ⟨AB HR,rfl⟩,zw _ _⟩
 by_cases h2:s.size=0
 ·have hr:Ar s=none:=by unfold Ar;rw [if_pos (.inr (.inl h2))]
  have HR:=AC hr
  clear hr
  go_enter Tryz.func133,Tryz.ntmps133
  go_wp2
  go_ret2
  exact ⟨.inl ⟨AB HR,rfl⟩,zw _ _⟩
 have h0:0<s.size:=by omega
 have g0:((s.size:Int)==0)=false:=by rw [beq_eq_false_iff_ne];omega
 have hd0:=KM s 0 h0
 by_cases h3:s[0]=47
 case neg=>
  have hr:Ar s=none:=by unfold Ar;rw [if_pos (.inr (.inr (by rw [hd0];intro e;exact h3 (zr e))))]
  have HR:=AC hr
  have g:((s[0].toNat:Int) !=47)=true:=by
   have:=Hk s[0]
   have h4:(s[0]==47)=false:=by simpa using h3
   rw [h4] at this
   simpa using this
  clear hr hd0 h3
  go_enter Tryz.func133,Tryz.ntmps133
  go_wp2
  go_ret2
  exact ⟨.inl ⟨AB HR,rfl⟩,zw _ _⟩
 have g:((s[0].toNat:Int) !=47)=false:=by rw [h3];rfl
 by_cases h5:s.size=1
 ·have hr:Ar s=some []:=by unfold Ar;rw [if_neg (by rintro (h|h|h);omega;omega;exact h (by rw [hd0,h3])),if_pos h5]
  have HR:=AC hr
  have g2:=WL h5 (hd0.trans (by rw [h3]))
  clear hr hd0 h3
  go_enter Tryz.func133,Tryz.ntmps133
  go_wp2
  go_ret2
  exact ⟨.inr ⟨[],AB HR,_,rfl,World.ownsRow_nil _ _ _ _⟩,zw _ _⟩
 have g2:=WM h5
 have HD:=AC (And.intro h3 hd0)
 obtain ⟨is,his,hz0,hz1,hz2⟩:=Eu cN
 have HIS:=AC (And.intro his (And.intro hz0 (And.intro hz1 hz2)))
 clear h3 hd0 his hz0 hz1 hz2
 go_enter Tryz.func133,Tryz.ntmps133
 go_wp2
 go_loopw [4,5,6] (fun l word i wr=>∃k:Nat,∃W:ByteArray,∃D:List ByteArray,1<=k/\k<=s.size+1/\i= .int .i64 k/\word= .string W/\Hid (D.all Bc=true)/\D.length<=k/\W.size<=k/\
   Hid ((k<=s.size->An s=D++(parts (s.data.toList.drop k) W.data.toList).map IM)/\(k=s.size+1->An s=D))/\Hid (wr.ownsRow w.heap.size 9 1 l D.length (CV D))/\Hid (Below w.heap.size w wr)) (fun _ _ i _=>s.size+1-(intOf i).toNat)
 case atStart=>exact ⟨1,ByteArray.empty,[],by omega,by omega,rfl,rfl,AC rfl,by simp,by simp,AC ⟨fun _=>rfl,fun h=>by omega⟩,AC (World.ownsRow_nil _ _ _ _),AC (zw _ _)⟩
 case round=>
  obtain ⟨k,W,D,hk1,hk,rfl,rfl,HAL,hDl,hWl,HPT,HOW,HBL⟩:=hrel
  by_cases hlt:k<s.size
  ·by_cases c1:s[k]=47
   ·have g3:((s[k].toNat:Int) !=47)=false:=by rw [c1];rfl
    have hpt:=(AB HPT).1 (by omega)
    rw [Rw s.data.toList k W.data.toList (by rw [KM s k hlt,c1])] at hpt
    have HNX:=AC (show (k+1<=s.size->An s=(D++[W])++(parts (s.data.toList.drop (k+1)) ByteArray.empty.data.toList).map IM)/\(k+1=s.size+1->An s=D++[W]) from
     ⟨fun _=>by rw [hpt,ye];rfl,fun h=>by omega⟩)
    have HEQ:=AC (show ∃r,An s=D++W::r from ⟨_,by rw [hpt];rfl⟩)
    have HNM:=AC (JW W wr (by omega))
    have hsz:=(AB HBL).size
    obtain ⟨b,hb⟩:∃b,b=Bc W:=⟨_,rfl⟩
    rw [<-hb] at HNM
    have HBB:=AC hb
    clear hpt hb c1
    go_wp2_with fail
    refine (AB HNM).mono ?_
    rintro e w1 ⟨rfl,hw1⟩
    subst hw1
    cases b
    ·have HR:=AC (PY h1 h2 h5 (AB HD).2 (AB HD).1 (AB HEQ) (AB HBB).symm)
     go_wp2
     go_ret2
     exact ⟨.inl ⟨AB HR,rfl⟩,AB HBL⟩
    ·go_wp2_with (at_builtin;refine wpList_append_lies _ (by rfl) _ _ 31 (by rfl) w.heap.size 9 is _ 1 16 Tryz.underlying31 (AB HIS).1 (AB HIS).2.1 (AB HIS).2.2.1 (AB HIS).2.2.2 rfl (by decide) _ _ _ (by rfl) ((AB HOW).alloc _) (pK w1.heap.size 0) 1 1 [.string W] (by rfl) (by rfl) (World.news_of_block (cs:=#[.string W]) (t:=9) (fr:=(0,0)) (heap_alloc_new w1 _)) (by simp [Value.oneCell']) (by omega) (by unfold maxLen;omega) (by omega) (by simp;omega) (w1.heap.size+1) (by simp) ?_;intro g cap5 w5 hown5 hgrow5 hat5 hlt5)
     have q1:w5.ownsRow w.heap.size 9 1 (.slice (some (pK g 0)) (D.length+1) cap5) (D++[W]).length (CV (D++[W])):=by
      rw [zn,show CV (D++[W])=CV D++[.string W] from by simp [CV]];exact hown5
     have q2:Below w.heap.size w w5:=((AB HBL).alloc (by omega) _).grown hgrow5 (by simp;omega) (by intro q h;have:=(AB HOW).lt q h;omega)
     have Q1:=AC q1
     have Q2:=AC q2
     clear hown5 hgrow5 hat5 q1 q2
     go_roundw
     case rel=>exact ⟨k+1,ByteArray.empty,D++[W],by omega,by omega,by go_num,rfl,AC (by rw [List.all_append,AB HAL];simp;exact (AB HBB).symm),by rw [zn];simp;omega,by simp,HNX,Q1,Q2⟩
     case measure=>simp [intOf];omega
   ·have g3:((s[k].toNat:Int) !=47)=true:=by
     have:=Hk s[k]
     have h4:(s[k]==47)=false:=by simpa using c1
     rw [h4] at this
     simpa using this
    have hpt:=(AB HPT).1 (by omega)
    rw [UP s.data.toList k W.data.toList _ (KM s k hlt) c1] at hpt
    obtain ⟨C,hC⟩:∃C,C=s.extract k (k+1):=⟨_,rfl⟩
    have hsl:∀w,(Instr.slice 9 (.string s) (some (.int .i64 (k:Int))) (some (.int .i64 ((k:Int)+1))) none).run Tryz.prog w= .ok (.string C) w:=by
     intro w
     rw [run_slice_string w 9 s .i64 .i64 (k:Int) ((k:Int)+1) Tryz.underlying9 (by omega) (by omega) (by omega),hC]
     rfl
    have hCd:C.data.toList=[s[k]]:=by rw [hC];exact Rv s k hlt
    have hCs:C.size=1:=by rw [<-ByteArray.size_data,<-xu,hCd];rfl
    have HNX:=AC (show (k+1<=s.size->An s=D++(parts (s.data.toList.drop (k+1)) (W++C).data.toList).map IM)/\(k+1=s.size+1->An s=D) from
     ⟨fun _=>by rw [hpt,Ru,hCd],fun h=>by omega⟩)
    have hWC:(W++C).size<=k+1:=by rw [ByteArray.size_append];omega
    have hsm:W.size+C.size<=9223372036854775807:=by omega
    clear hpt c1 hC hCd hCs
    go_wp2
    go_roundw
    case rel=>exact ⟨k+1,W++C,D,by omega,by omega,by go_num,rfl,HAL,by omega,hWC,HNX,HOW,HBL⟩
    case measure=>simp [intOf];omega
  ·by_cases hke:k=s.size
   ·subst hke
    have hpt:=(AB HPT).1 (zx _)
    rw [show s.data.toList.drop s.size=[] from yg (by simp)] at hpt
    have hpt2:An s=D++[W]:=hpt
    have HNX:=AC (show (s.size+1<=s.size->An s=(D++[W])++(parts (s.data.toList.drop (s.size+1)) ByteArray.empty.data.toList).map IM)/\(s.size+1=s.size+1->An s=D++[W]) from
     ⟨fun h=>by omega,fun _=>hpt2⟩)
    have HPL:=AC hpt2
    have HEQ:=AC (show ∃r,An s=D++W::r from ⟨[],hpt2⟩)
    have HNM:=AC (JW W wr (by omega))
    have hsz:=(AB HBL).size
    obtain ⟨b,hb⟩:∃b,b=Bc W:=⟨_,rfl⟩
    rw [<-hb] at HNM
    have HBB:=AC hb
    clear hpt hpt2 hb
    go_wp2_with fail
    refine (AB HNM).mono ?_
    rintro e w1 ⟨rfl,hw1⟩
    subst hw1
    cases b
    ·have HR:=AC (PY h1 h2 h5 (AB HD).2 (AB HD).1 (AB HEQ) (AB HBB).symm)
     go_wp2
     go_ret2
     exact ⟨.inl ⟨AB HR,rfl⟩,AB HBL⟩
    ·go_wp2_with (at_builtin;refine wpList_append_lies _ (by rfl) _ _ 31 (by rfl) w.heap.size 9 is _ 1 16 Tryz.underlying31 (AB HIS).1 (AB HIS).2.1 (AB HIS).2.2.1 (AB HIS).2.2.2 rfl (by decide) _ _ _ (by rfl) ((AB HOW).alloc _) (pK w1.heap.size 0) 1 1 [.string W] (by rfl) (by rfl) (World.news_of_block (cs:=#[.string W]) (t:=9) (fr:=(0,0)) (heap_alloc_new w1 _)) (by simp [Value.oneCell']) (by omega) (by unfold maxLen;omega) (by omega) (by simp;omega) (w1.heap.size+1) (by simp) ?_;intro g cap5 w5 hown5 hgrow5 hat5 hlt5)
     have q1:w5.ownsRow w.heap.size 9 1 (.slice (some (pK g 0)) (D.length+1) cap5) (D++[W]).length (CV (D++[W])):=by
      rw [zn,show CV (D++[W])=CV D++[.string W] from by simp [CV]];exact hown5
     have q2:Below w.heap.size w w5:=((AB HBL).alloc (by omega) _).grown hgrow5 (by simp;omega) (by intro q h;have:=(AB HOW).lt q h;omega)
     have Q1:=AC q1
     have Q2:=AC q2
     clear hown5 hgrow5 hat5 q1 q2
     go_roundw
     case rel=>exact ⟨s.size+1,ByteArray.empty,D++[W],by omega,by omega,by go_num,rfl,AC (by rw [List.all_append,AB HAL];simp;exact (AB HBB).symm),by rw [zn];simp;omega,by simp,AC ⟨fun h=>by omega,fun _=>AB HPL⟩,Q1,Q2⟩
     case measure=>simp [intOf]
   ·have hke2:k=s.size+1:=by omega
    subst hke2
    have hpt:=(AB HPT).2 rfl
    have hr:Ar s=some D:=by
     unfold Ar
     rw [if_neg (by rintro (h|h|h);omega;omega;exact h (by rw [(AB HD).2,(AB HD).1])),if_neg h5,hpt,if_pos (AB HAL)]
    have HR:=AC hr
    clear hpt hr
    go_wp2
    go_ret2
    exact ⟨.inr ⟨D,AB HR,_,rfl,AB HOW⟩,AB HBL⟩
structure Ino where
 id:Int
 parent:Int
 name:ByteArray
 dir:Bool
 bytes:Value
def BJ (x:Ino):List Value:=[.int .i64 x.id,.int .i64 x.parent,.string x.name,.bool x.dir,x.bytes]
def B0 (xs:List Ino):List Value:=xs.flatMap BJ
theorem Jl:∀(xs:List Ino) (j i:Nat) (x:Ino) (v:Value),xs[j]? =some x->i<5->(BJ x)[i]? =some v->(B0 xs)[j*5+i]? =some v
 |[],j,i,x,v,h,_,_=>by simp at h
 |a::r,0,i,x,v,h,hi,hv=>by
  have e:a=x:=by simpa using h
  subst e
  rw [B0,List.flatMap_cons,zp (by simp [BJ];omega),Nat.zero_mul,zq];exact hv
 |a::r,j+1,i,x,v,h,hi,hv=>by
  have ih:=Jl r j i x v (by simpa using h) hi hv
  have e:(j+1)*5+i-5=j*5+i:=by omega
  have e2:B0 (a::r)=BJ a++B0 r:=by rw [B0,List.flatMap_cons];rfl
  rw [e2,zo (by simp [BJ];omega),show (BJ a).length=5 from rfl,e]
  exact ih
def FG (w:World) (kb g cap:Nat) (xs:List Ino):Prop:=w.cell? (pK kb 7)=some (.slice (some (pK g 0)) xs.length cap)/\w.rangeAt g 0 (B0 xs)
theorem FG.cell {w:World} {kb g cap:Nat} {xs:List Ino} (h:FG w kb g cap xs) {j:Nat} {x:Ino} (hx:xs[j]? =some x) {i:Nat} (hi:i<5) {v:Value} (hv:(BJ x)[i]? =some v):w.cell? (pK g (j*5+i))=some v:=by
 have:=h.2 (j*5+i) v (Jl xs j i x v hx hi hv)
 rwa [zq] at this
def BK (xs:List Ino) (id:Int):Int:=match xs.findIdx? (fun x=>x.id==id) with|some i=>i|none=> -1
theorem UQ {xs:List Ino} {id:Int} (h:∀(j:Nat) (x:Ino),xs[j]? =some x->(x.id==id)=false):BK xs id= -1:=by
 unfold BK
 rw [List.findIdx?_eq_none_iff.2 (fun x hx=>by obtain ⟨j,hj,rfl⟩:=List.mem_iff_getElem.1 hx;exact h j _ (zz hj))]
theorem Jm {xs:List Ino} {id:Int} {k:Nat} {x:Ino} (hx:xs[k]? =some x) (he:(x.id==id)=true) (h:∀j (x:Ino),j<k->xs[j]? =some x->(x.id==id)=false):BK xs id=k:=by
 unfold BK
 have hk:=(zy.1 hx).1
 have:xs.findIdx? (fun x=>x.id==id)=some k:=by
  rw [List.findIdx?_eq_some_iff_getElem]
  refine ⟨hk,?_,fun j hj=> ?_⟩
  ·rw [zz hk] at hx
   rw [zr hx];exact he
  ·rw [h j _ hj (zz (by omega))];simp
 rw [this]
theorem Fv (kb g cap:Nat) (xs:List Ino) (id:Int) (w:World) (h:FG w kb g cap xs) (hn:xs.length<=1000000):
  Calls Tryz.prog 83 #[pq kb 0,.int .i64 id] w fun e w'=>e= .returned (.int .i64 (BK xs id))/\w'=w:=by
 have c7:=h.1
 have H:=AC h
 clear h
 go_enter Tryz.func83,Tryz.ntmps83
 go_wp2
 go_loop [5] (fun i=>∃k:Nat,k<=xs.length/\i= .int .i64 k/\Hid (∀j x,j<k->xs[j]? =some x->(x.id==id)=false)) (fun i=>xs.length-(intOf i).toNat)
 case atStart=>exact ⟨0,by omega,rfl,AC (fun j x hj=>by omega)⟩
 case round=>
  obtain ⟨k,hk,rfl,HA⟩:=hrel
  by_cases hlt:k<xs.length
  ·obtain ⟨x,hx⟩:∃x,xs[k]? =some x:=⟨_,zz hlt⟩
   have c0:w.cell? (pK g (k*5))=some (.int .i64 x.id):=by have:=(AB H).cell hx (i:=0) (by omega) rfl;rwa [Nat.add_zero] at this
   have hk0:(0:Int)<=(k:Int):=by omega
   have hk1:(k:Int)<(xs.length:Int):=by omega
   by_cases t:x.id=id
   ·have g1:(x.id==id)=true:=by simpa using t
    have HR:=AC (Jm hx g1 (AB HA))
    generalize x.id=X at c0 g1
    clear hx t
    go_wp2
    go_ret
    exact ⟨by rw [AB HR];rfl,rfl⟩
   ·have g1:(x.id==id)=false:=by simpa using t
    have HN:Hid (∀j x,j<k+1->xs[j]? =some x->(x.id==id)=false):=AC (fun j y hj hy=>by
     rcases Nat.lt_succ_iff_lt_or_eq.1 hj with h|h
     ·exact AB HA j y h hy
     ·subst h
      rw [hx] at hy
      obtain rfl:=zr hy
      exact g1)
    generalize x.id=X at c0 g1
    clear hx t
    go_wp2
    go_round
    case rel=>exact ⟨k+1,by omega,by go_num,HN⟩
    case measure=>simp [intOf];omega
  ·have HR:=AC (UQ (xs:=xs) (id:=id) (fun j x hx=>AB HA j x (by have:=(zy.1 hx).1;omega) hx))
   go_wp2
   go_ret
   exact ⟨by rw [AB HR];rfl,rfl⟩
def Az (dir:Int) (name:ByteArray) (x:Ino):Bool:=x.parent==dir&&x.name.toList==name.toList
def Ax (xs:List Ino) (dir:Int) (name:ByteArray):Int:=match xs.find? (Az dir name) with|some x=>x.id|none=>0
theorem UR {xs:List Ino} {dir:Int} {name:ByteArray} (h:∀(j:Nat) (x:Ino),xs[j]? =some x->Az dir name x=false):Ax xs dir name=0:=by
 unfold Ax
 rw [xv.2 (fun x hx=>by obtain ⟨j,hj,rfl⟩:=List.mem_iff_getElem.1 hx;rw [h j _ (zz hj)];decide)]
theorem UT {xs:List Ino} {dir:Int} {name:ByteArray} {k:Nat} {x:Ino} (hx:xs[k]? =some x) (he:Az dir name x=true) (h:∀j (x:Ino),j<k->xs[j]? =some x->Az dir name x=false):Ax xs dir name=x.id:=by
 unfold Ax
 have hk:=(zy.1 hx).1
 have hxe:xs[k]=x:=by rw [zz hk] at hx;exact zr hx
 have:xs.find? (Az dir name)=some x:=by
  rw [List.find?_eq_some_iff_getElem]
  refine ⟨he,k,hk,hxe,fun j hj=> ?_⟩
  rw [h j _ hj (zz (by omega))];rfl
 rw [this]
theorem KN (kb g cap:Nat) (xs:List Ino) (dir:Int) (name:ByteArray) (w:World) (h:FG w kb g cap xs) (hn:xs.length<=1000000):
  Calls Tryz.prog 134 #[pq kb 0,.int .i64 dir,.string name] w fun e w'=>e= .returned (.int .i64 (Ax xs dir name))/\w'=w:=by
 have c7:=h.1
 have H:=AC h
 clear h
 go_enter Tryz.func134,Tryz.ntmps134
 go_wp2
 go_loop [7] (fun i=>∃k:Nat,k<=xs.length/\i= .int .i64 k/\Hid (∀j x,j<k->xs[j]? =some x->Az dir name x=false)) (fun i=>xs.length-(intOf i).toNat)
 case atStart=>exact ⟨0,by omega,rfl,AC (fun j x hj=>by omega)⟩
 case round=>
  obtain ⟨k,hk,rfl,HA⟩:=hrel
  by_cases hlt:k<xs.length
  ·obtain ⟨x,hx⟩:∃x,xs[k]? =some x:=⟨_,zz hlt⟩
   have c0:w.cell? (pK g (k*5))=some (.int .i64 x.id):=by have:=(AB H).cell hx (i:=0) (by omega) rfl;rwa [Nat.add_zero] at this
   have c1:w.cell? (pK g (k*5+1))=some (.int .i64 x.parent):=(AB H).cell hx (i:=1) (by omega) rfl
   have c2:w.cell? (pK g (k*5+2))=some (.string x.name):=(AB H).cell hx (i:=2) (by omega) rfl
   have hk0:(0:Int)<=(k:Int):=by omega
   have hk1:(k:Int)<(xs.length:Int):=by omega
   by_cases hc:Az dir name x=true
   ·have HR:=AC (UT hx hc (AB HA))
    have hc2:=hc
    unfold Az at hc2
    rw [Bool.and_eq_true] at hc2
    obtain ⟨g1,g2⟩:=hc2
    generalize x.id=X at c0 HR
    generalize x.parent=Y at c1 g1
    generalize x.name=Z at c2 g2
    clear hx hc
    go_wp2
    go_ret
    exact ⟨by rw [AB HR];rfl,rfl⟩
   ·have hc':Az dir name x=false:=by simpa using hc
    have HN:Hid (∀j x,j<k+1->xs[j]? =some x->Az dir name x=false):=AC (fun j y hj hy=>by
     rcases Nat.lt_succ_iff_lt_or_eq.1 hj with h|h
     ·exact AB HA j y h hy
     ·subst h
      rw [hx] at hy
      obtain rfl:=zr hy
      exact hc')
    by_cases g1:(x.parent==dir)=true
    ·have g2:(x.name.toList==name.toList)=false:=by
      unfold Az at hc'
      rw [g1,Bool.true_and] at hc'
      exact hc'
     generalize x.id=X at c0
     generalize x.parent=Y at c1 g1
     generalize x.name=Z at c2 g2
     clear hx hc hc'
     go_wp2
     go_round
     case rel=>exact ⟨k+1,by omega,by go_num,HN⟩
     case measure=>simp [intOf];omega
    ·have g1':(x.parent==dir)=false:=by simpa using g1
     generalize x.id=X at c0
     generalize x.parent=Y at c1 g1'
     generalize x.name=Z at c2
     clear hx hc hc' g1
     go_wp2
     go_round
     case rel=>exact ⟨k+1,by omega,by go_num,HN⟩
     case measure=>simp [intOf];omega
  ·have HR:=AC (UR (xs:=xs) (dir:=dir) (name:=name) (fun j x hx=>AB HA j x (by have:=(zy.1 hx).1;omega) hx))
   go_wp2
   go_ret
   exact ⟨by rw [AB HR];rfl,rfl⟩
theorem DN {p:Prop} (h:¬p):(false=true↔p):=⟨fun e=>(Bool.false_ne_true e).elim,fun q=>(h q).elim⟩
def Hs (B:List Int):Prop:=((strOfNums (B.take 7)).toList==[127,69,76,70,2,1,1])=true
def B5 (B:List Int):Prop:=64<=B.length/\Hs B/\AW B 16 2=2/\AW B 18 2=243/\AW B 20 4=1/\AW B 32 8=64/\AW B 52 2=64/\AW B 54 2=56/\1<=AW B 56 2/\AW B 56 2<=8/\64+56*AW B 56 2<=(B.length:Int)
theorem eD (b off cap:Nat) (B:List Int) (w:World) (hv:BC w b off B) (h:7<=B.length):(convert 32 9 (.slice (some (pK b off)) 7 cap)).run Tryz.prog w= .ok (.string (strOfNums (B.take 7))) w:=
 run_convert_bytes_arg w 32 5 Tryz.underlying32 Tryz.underlying5 b off 7 cap (B.take 7) (by simp;omega) (fun i hi=>by
  rw [hv i (by omega)]
  simp [List.getD,xy,hi]) 9 Tryz.underlying9
theorem Of (b off cap:Nat) (B:List Int) (w:World) (hB:AY B) (hcap:B.length<=cap) (hlen:B.length<=1000000) (hv:BC w b off B):
  Calls Tryz.prog 135 #[.slice (some (pK b off)) B.length cap] w fun e w'=>∃n:Int,∃ok:Bool,e= .returned (.tuple #[.int .i64 n,.bool ok])/\w'=w/\(ok=true↔B5 B)/\(B5 B->n=AW B 56 2):=by
 by_cases h64:64<=B.length
 case neg=>
  have hno:¬B5 B:=fun h=>h64 h.1
  have HN:=AC hno
  clear hv hB hno
  go_enter Tryz.func135,Tryz.ntmps135
  go_wp2
  go_ret2
  exact ⟨0,false,rfl,rfl,DN (AB HN),fun h=>absurd h (AB HN)⟩
 have hcv:=eD b off cap B w hv (by omega)
 obtain ⟨s7,hs7⟩:∃s7,s7=strOfNums (B.take 7):=⟨_,rfl⟩
 rw [<-hs7] at hcv
 have hl7:s7.size=7:=by rw [hs7,strOfNums_size];simp;omega
 have h7:(7:Int)<=(cap:Int):=by omega
 have h70:¬cap=0:=by omega
 by_cases hm:(s7.toList==[127,69,76,70,2,1,1])=true
 case neg=>
  have hm':(s7.toList==[127,69,76,70,2,1,1])=false:=by simpa using hm
  have hno:¬B5 B:=fun h=>hm (by rw [hs7];exact h.2.1)
  have HN:=AC hno
  have HM:=AC hm
  clear hv hB hno hm hs7 hl7
  go_enter Tryz.func135,Tryz.ntmps135
  go_wp2
  go_ret2
  exact ⟨0,false,rfl,rfl,DN (AB HN),fun h=>absurd h (AB HN)⟩
 have HM:=AC hm
 have HS7:=AC hs7
 have HV:=AC hv
 have HBB:=AC hB
 have hm2:(!s7.toList==[127,69,76,70,2,1,1])=false:=by rw [hm];rfl
 have ne16:¬cap=16:=by omega
 have ne18:¬cap=18:=by omega
 have ne20:¬cap=20:=by omega
 have ne32:¬cap=32:=by omega
 have ne52:¬cap=52:=by omega
 have ne54:¬cap=54:=by omega
 have ne56:¬cap=56:=by omega
 have h64c:(64:Int)<=(cap:Int):=by omega
 clear hm hs7 hv hB hl7
 go_enter Tryz.func135,Tryz.ntmps135
 go_wp2_with fail
 refine (BF b (off+16) 2 (cap-16) B 16 _ (AB HBB) (by omega) (fun j hj=>by rw [Nat.add_assoc];exact (AB HV) (16+j) (by omega))).mono ?_
 rintro e w1 ⟨rfl,hw1⟩
 subst hw1
 go_wp2_with fail
 refine (BF b (off+18) 2 (cap-18) B 18 _ (AB HBB) (by omega) (fun j hj=>by rw [Nat.add_assoc];exact (AB HV) (18+j) (by omega))).mono ?_
 rintro e w1 ⟨rfl,hw1⟩
 subst hw1
 go_wp2_with fail
 refine (BF b (off+20) 4 (cap-20) B 20 _ (AB HBB) (by omega) (fun j hj=>by rw [Nat.add_assoc];exact (AB HV) (20+j) (by omega))).mono ?_
 rintro e w1 ⟨rfl,hw1⟩
 subst hw1
 go_wp2_with fail
 refine (BF b (off+32) 8 (cap-32) B 32 _ (AB HBB) (by omega) (fun j hj=>by rw [Nat.add_assoc];exact (AB HV) (32+j) (by omega))).mono ?_
 rintro e w1 ⟨rfl,hw1⟩
 subst hw1
 go_wp2_with fail
 refine (BF b (off+52) 2 (cap-52) B 52 _ (AB HBB) (by omega) (fun j hj=>by rw [Nat.add_assoc];exact (AB HV) (52+j) (by omega))).mono ?_
 rintro e w1 ⟨rfl,hw1⟩
 subst hw1
 go_wp2_with fail
 refine (BF b (off+54) 2 (cap-54) B 54 _ (AB HBB) (by omega) (fun j hj=>by rw [Nat.add_assoc];exact (AB HV) (54+j) (by omega))).mono ?_
 rintro e w1 ⟨rfl,hw1⟩
 subst hw1
 go_wp2_with fail
 refine (BF b (off+56) 2 (cap-56) B 56 _ (AB HBB) (by omega) (fun j hj=>by rw [Nat.add_assoc];exact (AB HV) (56+j) (by omega))).mono ?_
 rintro e w1 ⟨rfl,hw1⟩
 subst hw1
 have b0:=BH (AB HBB) 16 2 (by omega)
 have b1:=BH (AB HBB) 18 2 (by omega)
 have b2:=BH (AB HBB) 20 4 (by omega)
 have b3:=BH (AB HBB) 32 8 (by omega)
 have b4:=BH (AB HBB) 52 2 (by omega)
 have b5:=BH (AB HBB) 54 2 (by omega)
 have b6:=BH (AB HBB) 56 2 (by omega)
 generalize hx0:AW B 16 2=x0 at b0 ⊢
 generalize hx1:AW B 18 2=x1 at b1 ⊢
 generalize hx2:AW B 20 4=x2 at b2 ⊢
 generalize hx3:AW B 32 8=x3 at b3 ⊢
 generalize hx4:AW B 52 2=x4 at b4 ⊢
 generalize hx5:AW B 54 2=x5 at b5 ⊢
 generalize hx6:AW B 56 2=x6 at b6 ⊢
 have HX:=AC (And.intro hx0 (And.intro hx1 (And.intro hx2 (And.intro hx3 (And.intro hx4 (And.intro hx5 hx6))))))
 clear hx0 hx1 hx2 hx3 hx4 hx5 hx6
 have HH:Hid (B5 B↔(x0=2/\x1=243/\x2=1/\x3=64/\x4=64/\x5=56/\1<=x6/\x6<=8/\64+56*x6<=(B.length:Int))):=AC (by
  obtain ⟨r0,r1,r2,r3,r4,r5,r6⟩:=AB HX
  unfold B5
  rw [r0,r1,r2,r3,r4,r5,r6]
  have hmg:Hs B:=by unfold Hs;rw [<-AB HS7];exact AB HM
  constructor
  ·rintro ⟨_,_,h⟩;exact h
  ·intro h;exact ⟨h64,hmg,h⟩)
 have H6:Hid (AW B 56 2=x6):=AC (AB HX).2.2.2.2.2.2
 obtain ⟨b60,_⟩:=b6
 clear b0 b1 b2 b3 b4 b5 HX HM HS7 HBB hcv HV hm2
 by_cases t0:x0=2
 case neg=>
  have f0:(x0 !=2)=true:=by simpa using t0
  have HN:=AC (fun h:B5 B=>t0 ((AB HH).1 h).1)
  clear t0
  go_wp2
  go_ret2
  exact ⟨0,false,rfl,rfl,DN (AB HN),fun h=>absurd h (AB HN)⟩
 have f0:(x0 !=2)=false:=by simpa using t0
 have T0:=AC t0
 clear t0
 by_cases t1:x1=243
 case neg=>
  have f1:(x1 !=243)=true:=by simpa using t1
  have HN:=AC (fun h:B5 B=>t1 ((AB HH).1 h).2.1)
  clear t1
  go_wp2
  go_ret2
  exact ⟨0,false,rfl,rfl,DN (AB HN),fun h=>absurd h (AB HN)⟩
 have f1:(x1 !=243)=false:=by simpa using t1
 have T1:=AC t1
 clear t1
 by_cases t2:x2=1
 case neg=>
  have f2:(x2 !=1)=true:=by simpa using t2
  have HN:=AC (fun h:B5 B=>t2 ((AB HH).1 h).2.2.1)
  clear t2
  go_wp2
  go_ret2
  exact ⟨0,false,rfl,rfl,DN (AB HN),fun h=>absurd h (AB HN)⟩
 have f2:(x2 !=1)=false:=by simpa using t2
 have T2:=AC t2
 clear t2
 by_cases t3:x3=64
 case neg=>
  have f3:(x3 !=64)=true:=by simpa using t3
  have HN:=AC (fun h:B5 B=>t3 ((AB HH).1 h).2.2.2.1)
  clear t3
  go_wp2
  go_ret2
  exact ⟨0,false,rfl,rfl,DN (AB HN),fun h=>absurd h (AB HN)⟩
 have f3:(x3 !=64)=false:=by simpa using t3
 have T3:=AC t3
 clear t3
 by_cases t4:x4=64
 case neg=>
  have f4:(x4 !=64)=true:=by simpa using t4
  have HN:=AC (fun h:B5 B=>t4 ((AB HH).1 h).2.2.2.2.1)
  clear t4
  go_wp2
  go_ret2
  exact ⟨0,false,rfl,rfl,DN (AB HN),fun h=>absurd h (AB HN)⟩
 have f4:(x4 !=64)=false:=by simpa using t4
 have T4:=AC t4
 clear t4
 by_cases t5:x5=56
 case neg=>
  have f5:(x5 !=56)=true:=by simpa using t5
  have HN:=AC (fun h:B5 B=>t5 ((AB HH).1 h).2.2.2.2.2.1)
  clear t5
  go_wp2
  go_ret2
  exact ⟨0,false,rfl,rfl,DN (AB HN),fun h=>absurd h (AB HN)⟩
 have f5:(x5 !=56)=false:=by simpa using t5
 have T5:=AC t5
 clear t5
 by_cases t6:1<=x6
 case neg=>
  have HN:=AC (fun h:B5 B=>t6 ((AB HH).1 h).2.2.2.2.2.2.1)
  go_wp2
  go_ret2
  exact ⟨0,false,rfl,rfl,DN (AB HN),fun h=>absurd h (AB HN)⟩
 by_cases t7:x6<=8
 case neg=>
  have HN:=AC (fun h:B5 B=>t7 ((AB HH).1 h).2.2.2.2.2.2.2.1)
  go_wp2
  go_ret2
  exact ⟨0,false,rfl,rfl,DN (AB HN),fun h=>absurd h (AB HN)⟩
 go_wp2
 go_ret2
 refine ⟨x6,decide (64+56*x6<=(B.length:Int)),rfl,rfl,?_,fun _=>(AB H6).symm⟩
 rw [decide_eq_true_iff,AB HH]
 exact ⟨fun h=>⟨AB T0,AB T1,AB T2,AB T3,AB T4,AB T5,t6,t7,h⟩,fun h=>h.2.2.2.2.2.2.2.2⟩
end Go.Proofs.YtdchgbmliojoiaaGreatDoor
