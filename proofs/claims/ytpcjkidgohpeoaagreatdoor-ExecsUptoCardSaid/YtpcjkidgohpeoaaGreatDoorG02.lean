import Derived.Test.YtpcjkidgohpeoaaGreatDoorG01
import Derived.LaidEql
import Derived.Stop.Asserts
import Derived.RowKitTokens
import Derived.Laws.Bits64
import Derived.Laws.BitsAllLaws
import Derived.Shelf.SlSortCmp.SmallK
import Derived.Shelf.Small.Bits
set_option maxRecDepth 100000
set_option maxHeartbeats 4000000
set_option linter.all false
namespace Go.Proofs.YtpcjkidgohpeoaaGreatDoor
open RowKit Proofs.Tryz
variable {B:List Int} (v x:Value) (P s n c e:Int) (t a:Addr) (old:Value) (w:World)
section
open Extern.Stop Stop Extern
def Tryz.valueOfP:(ReflectliteValue.unpack (.iface 62 (.pointer (some t)))).run Tryz.prog w
  = .ok (.agg #[qP 6 62,qP w.heap.size 0,uV 150]) (w.alloc (.cells #[.pointer (some t)] 62)):=kf
def Tryz.typeP:(ReflectliteValue.methodAny (ReflectliteValue.valueError "reflectlite.Value.Type" 0) (λt _ _ _=>ReflectliteType.toType t) #[.agg #[qP 6 62,.pointer (some a),uV 150]]).run Tryz.prog w
  = .ok (.iface 204 (.agg #[qP 6 62])) w:=kf
def Tryz.methodKind (h:Value) (w:World):(Go.method 710 204 (.agg #[h]) "Kind").run Tryz.prog w= .ok (467,h) w:=kf
def Tryz.kindP:((ReflectliteType.abiMethod λt=>Functor.map (λa:Nat=>Value.int IntKind.u8 (a:Int)) (Rtype.kind t)) #[qP 6 62]).run Tryz.prog w= .ok (.int .u8 22) w:=kf
def Tryz.kindE:((ReflectliteType.abiMethod λt=>Functor.map (λa:Nat=>Value.int IntKind.u8 (a:Int)) (Rtype.kind t)) #[qP 6 40]).run Tryz.prog w= .ok (.int .u8 2) w:=kf
def nC (h1 h2):(#[v]:Array Value).getLit 0 (n:=1) h1 h2=v:=rfl
def pS (h1 h2):(#[v,x]:Array Value).getLit 0 (n:=2) h1 h2=v:=rfl
def pT (h1 h2):(#[v,x]:Array Value).getLit 1 (n:=2) h1 h2=x:=rfl
def Tryz.partsP:(ReflectliteValue.parts (.agg #[qP 6 62,.pointer (some a),uV 150])).run Tryz.prog w= .ok (some (62,a,150)) w:=kf
def Tryz.isNilP (p:Addr) (W:World) (ha:W.cell? a=some (.pointer (some p))):
  (ReflectliteValue.method (ReflectliteValue.valueError "reflectlite.Value.IsNil" 0) ReflectliteValue.isNil #[.agg #[qP 6 62,.pointer (some a),uV 150]]).run prog W= .ok (.bool false) W:=by
 change (bind (ReflectliteValue.parts _) _:Sem Value).run prog W=_;simp only [nC,uk,Tryz.partsP,Result.andThen];simp [ReflectliteValue.isNil,loadVar,isAgg,underlying,underlying62,ha,Result.andThen]
def Tryz.methodElem (h:Value) (w:World):(Go.method 710 204 (.agg #[h]) "Elem").run Tryz.prog w= .ok (487,.agg #[h]) w:=kf
def Tryz.methodImplements (h:Value) (w:World):(Go.method 710 204 (.agg #[h]) "Implements").run Tryz.prog w= .ok (488,.agg #[h]) w:=kf
def Tryz.methodAssignableTo (h:Value) (w:World):(Go.method 710 204 (.agg #[h]) "AssignableTo").run Tryz.prog w= .ok (485,.agg #[h]) w:=kf
def Tryz.elemP:(ReflectliteType.method ReflectliteType.elem #[.agg #[qP 6 62]]).run Tryz.prog w= .ok (.iface 204 (.agg #[qP 6 40])) w:=kf
def Tryz.implementsE:(ReflectliteType.relation "Implements" ReflectliteType.implements_ #[.agg #[qP 6 40],.iface 204 (.agg #[qP 6 33])]).run Tryz.prog w= .ok (.bool true) w:=kf
def Tryz.typeOfE:(ReflectliteType.typeOf #[.iface 40 v]).run Tryz.prog w= .ok (.iface 204 (.agg #[qP 6 40])) w:=kf
def Tryz.assignableE:(ReflectliteType.relation "AssignableTo" ReflectliteType.assignableTo #[.agg #[qP 6 40],.iface 204 (.agg #[qP 6 40])]).run Tryz.prog w= .ok (.bool true) w:=kf
def Tryz.valueOfE:(ReflectliteValue.unpack (.iface 40 (iV n))).run Tryz.prog w
  = .ok (.agg #[qP 6 40,qP w.heap.size 0,uV 130]) (w.alloc (.cells #[iV n] 40)):=kf
def Tryz.elemOfP:(Rtype.elem? 62).run Tryz.prog w= .ok (some 40) w:=kf
def Tryz.mkE (p:Addr) (w:World):(ReflectliteValue.mk 40 p ReflectliteValue.flagAddr).run Tryz.prog w= .ok (.agg #[qP 6 40,.pointer (some p),uV 386]) w:=kf
def Tryz.elemVP (p:Addr) (W:World) (ha:W.cell? a=some (.pointer (some p))):
  (ReflectliteValue.method (ReflectliteValue.valueError "reflectlite.Value.Elem" 0) ReflectliteValue.elem #[.agg #[qP 6 62,.pointer (some a),uV 150]]).run prog W
   = .ok (.agg #[qP 6 40,.pointer (some p),uV 386]) W:=by
 change (bind (ReflectliteValue.parts _) _:Sem Value).run prog W=_;simp only [nC,uk,Tryz.partsP,Result.andThen];simp [ReflectliteValue.elem,loadVar,isAgg,underlying,underlying62,ha,Result.andThen,Tryz.elemOfP,Tryz.mkE]
def Tryz.partsEa:(ReflectliteValue.parts (.agg #[qP 6 40,.pointer (some a),uV 386])).run Tryz.prog w= .ok (some (40,a,386)) w:=kf
def Tryz.partsE:(ReflectliteValue.parts (.agg #[qP 6 40,.pointer (some a),uV 130])).run Tryz.prog w= .ok (some (40,a,130)) w:=kf
def Tryz.directE:(Rtype.directlyAssignable 40 40).run Tryz.prog w= .ok true w:=kf
def Tryz.setE (ta b:Addr) (n:Int) (old:Value) (W:World) (hb:W.cell? b=some (iV n)) (ht:W.cell? ta=some old) (hf:W.frozen? ta=false):
  (ReflectliteValue.set #[.agg #[qP 6 40,.pointer (some ta),uV 386],.agg #[qP 6 40,.pointer (some b),uV 130]]).run prog W
   = .ok (.tuple #[]) (W.setCell ta (iV n)):=by
 change (bind (ReflectliteValue.parts _) _:Sem Value).run prog W=_;simp only [pS,pT,uk,Tryz.partsEa,Tryz.partsE,Result.andThen];simp [ReflectliteValue.flagAddr,loadVar,isAgg,underlying,underlying40,hb,Result.andThen,Tryz.directE,storeVar,Value.cells,storeCells,Addr.add];rw [run_store prog W ta _ _ (by rfl)];simp [ht,hf]
def nN (hg:w.cell? (xK 0 0)=some (.iface 204 (.agg #[qP 6 33]))) (D:w.cell? t=some old) (F:w.frozen? t=false):
  cT 14 #[.iface 40 (iV n),.iface 62 (.pointer (some t))] w λev w'=>ev= .returned (.bool true)/\w'=((((w.alloc (.cells #[.pointer (some t)] 62)).alloc (.cells #[qP 6 62,qP w.heap.size 0,uV 150] 115)).alloc (.cells #[qP 6 62,qP w.heap.size 0,uV 150] 115)).alloc (.cells #[iV n] 40)).setCell t (iV n):=by
 have h6:= @run_callFunc_extern prog 36 _ (λargs=>ReflectliteValue.unpack (args.getD 0 (.tuple #[]))) func36 kf kf kf kf;have h7:= @run_callFunc_extern prog 37 _ (ReflectliteValue.methodAny (ReflectliteValue.valueError "reflectlite.Value.Type" 0) (λt _ _ _=>ReflectliteType.toType t)) func37 kf kf kf kf
 have h8:= @run_callFunc_extern prog 38 _ (ReflectliteValue.method (ReflectliteValue.valueError "reflectlite.Value.IsNil" 0) ReflectliteValue.isNil) func38 kf kf kf kf
 have M:= @run_callFunc_extern prog 467 _ (ReflectliteType.abiMethod λt=>do pure (.int .u8 (<-Rtype.kind t))) func467 kf kf kf kf;have T:= @run_callFunc_extern prog 487 _ (ReflectliteType.method ReflectliteType.elem) func487 kf kf kf kf;have X:= @run_callFunc_extern prog 488 _ (ReflectliteType.relation "Implements" ReflectliteType.implements_) func488 kf kf kf kf
 have J:= @run_callFunc_extern prog 77 _ ReflectliteType.typeOf func77 kf kf kf kf;have G:= @run_callFunc_extern prog 485 _ (ReflectliteType.relation "AssignableTo" ReflectliteType.assignableTo) func485 kf kf kf kf
 have O:= @run_callFunc_extern prog 78 _ (ReflectliteValue.method (ReflectliteValue.valueError "reflectlite.Value.Elem" 0) ReflectliteValue.elem) func78 kf kf kf kf
 have L:= @run_callFunc_extern prog 79 _ ReflectliteValue.set func79 kf kf kf kf;have tO:=Tryz.typeOfE;have mA:=Tryz.methodAssignableTo;have Y:=Tryz.assignableE;have N:=Tryz.valueOfE;have f6:=Tryz.valueOfP;have f7:=Tryz.typeP;have mK:=Tryz.methodKind;have mE:=Tryz.methodElem;have mI:=Tryz.methodImplements;have V:=Tryz.kindP;have H:=Tryz.kindE;have U:=Tryz.elemP;have I:=Tryz.implementsE;have n8:=Tryz.isNilP (xK w.heap.size 0) t ((w.alloc (.cells #[.pointer (some t)] 62)).alloc (.cells #[qP 6 62,qP w.heap.size 0,uV 150] 115)) sI
 have E:0<w.heap.size:=by
  rcases sf w.heap.size with h0|h
  ·simp [World.cell?,h0] at hg
  ·exact h
 have R:((w.alloc (.cells #[.pointer (some t)] 62)).alloc (.cells #[qP 6 62,qP w.heap.size 0,uV 150] 115)).cell? (xK 0 0)=some (.iface 204 (.agg #[qP 6 33])):=by
  rw [ux _ _ (xK 0 0) sI,ux _ _ (xK 0 0) E];exact hg
 have C:t.block<w.heap.size:=by
  rcases Nat.lt_or_ge t.block w.heap.size with h|h
  ·exact h
  ·simp [World.cell?,Array.getElem?_eq_none h] at D
 have el:=Tryz.elemVP (xK w.heap.size 0) t (((w.alloc (.cells #[.pointer (some t)] 62)).alloc (.cells #[qP 6 62,qP w.heap.size 0,uV 150] 115)).alloc (.cells #[qP 6 62,qP w.heap.size 0,uV 150] 115)) (by rw [ux _ _ (xK w.heap.size 0) sO];simp)
 have st:=Tryz.setE t (xK (w.heap.size+1+1+1) 0) n old ((((w.alloc (.cells #[.pointer (some t)] 62)).alloc (.cells #[qP 6 62,qP w.heap.size 0,uV 150] 115)).alloc (.cells #[qP 6 62,qP w.heap.size 0,uV 150] 115)).alloc (.cells #[iV n] 40))
  (by rw [World.cell?_alloc_at _ _ _ _ sI];rfl)
  (by rw [ux _ _ t sO,ux _ _ t sO,ux _ _ t sO,ux _ _ t C];exact D)
  (by rw [rr _ _ t sO,rr _ _ t sO,rr _ _ t sO,rr _ _ t (Nat.ne_of_lt C)];exact F)
 go_enter func14,ntmps14;go_wp2;refine wp_loop_rounds 1 ?_;rw [rounds_succ];go_wp2;go_ret;exact ⟨rfl,rfl⟩
def Pt:cT 8 #[.nilIface] w λe w'=>e= .returned (iV 0)/\Bw w w':=by
 go_enter func8,ntmps8;go_wp2;go_ret;exact ⟨rfl,bA⟩
def Ss (hg:w.cell? (xK 0 0)=some (.iface 204 (.agg #[qP 6 33]))):
  cT 8 #[.iface 40 (iV n)] w λe w'=>e= .returned (iV n)/\Bw w w':=by
 have C:0<w.heap.size:=by
  rcases sf w.heap.size with h0|h
  ·simp [World.cell?,h0] at hg
  ·exact h
 have F:(w.alloc (.cells #[iV 0] 40)).cell? (xK 0 0)=some (.iface 204 (.agg #[qP 6 33])):=by
  rw [ux _ _ (xK 0 0) C];exact hg
 have E:(w.alloc (.cells #[iV 0] 40)).cell? (xK w.heap.size 0)=some (iV 0):=sI;have D:(w.alloc (.cells #[iV 0] 40)).frozen? (xK w.heap.size 0)=false:=sI;go_enter func8,ntmps8
 go_wp2_with (go_at_call 14;refine (nN n _ (iV 0) _ F E D).mono ?_;rintro e w' ⟨rfl,rfl⟩)
 go_ret;refine ⟨rfl,?_⟩;exact (((bA.alloc sI _).alloc sO _).alloc sO _).alloc sO _
end
def AO (B:List Int) (p:Nat):Nat->Int
 |0=>0
 |k+1=>B.getD p 0+256*AO B (p+1) k
def AK (B:List Int):Prop:=∀j,0<=B.getD j 0/\B.getD j 0<=255
def MG {B:List Int} (hB:AK B):∀(k p:Nat),0<=AO B p k/\AO B p k<256^k
 |0,p=>by simp [AO]
 |k+1,p=>by
  have h1:=MG hB k (p+1);have h2:=hB p;rw [AO,Int.pow_succ];omega
def lE:∀k:Fin 9,(256:Int)^k.val<=18446744073709551616:=dz
def lF:∀k:Fin 8,(256:Int)^k.val<=72057594037927936:=dz
def BP (hB:AK B) (p k:Nat) (hk:k<=8):0<=AO B p k/\AO B p k<18446744073709551616:=by
 have h:=MG hB k p;have:=lE ⟨k,om⟩;simp only at this;omega
def bH (hB:AK B) (p k:Nat) (hk:k<=7):0<=AO B p k/\AO B p k<72057594037927936:=by
 have h:=MG hB k p;have:=lF ⟨k,om⟩;simp only at this;omega
def gf (h0:0<=n) (h1:n<72057594037927936) (c0:0<=c) (c1:c<=255):IntKind.u64.wrap (n*256)=n*256/\bits BinOp.or IntKind.u64 (n*256) c=c+256*n/\IntKind.u64.wrap (n*256+c)=c+256*n:=by
 refine ⟨by rw [yh];omega,?_,by rw [yh];omega⟩;rw [u64_or (n*256) c om om c0 om];have e:(n*256).toNat=2^8*n.toNat:=om;rw [e,<-Nat.two_pow_add_eq_or_of_lt om];omega
def Am (w:World) (b off:Nat) (B:List Int):Prop:=∀j,j<B.length->w.cell? (xK b (off+j))=some (.int .u8 (B.getD j 0))
def Am.below {w w':World} {b off:Nat} (h:Am w b off B) (hb:Bw w w') (C:b<w.heap.size):Am w' b off B:=
 λj hj=>by rw [hb.cell (p:=(xK b (off+j))) C];exact h j hj
def Ry (b off k D:Nat) (B:List Int) (p:Nat) (w:World) (hB:AK B) (hk:k<=8) (hc:∀j,j<k->w.cell? (xK b (off+j))=some (.int .u8 (B.getD (p+j) 0))):
  cT 174 #[sL b off k D] w λe w'=>e= .returned (uV (AO B p k))/\w'=w:=by
 have HB:=AC hB;have HC:=AC hc;clear hB hc;go_enter func174,ntmps174;go_wp2
 go_loop [3,4] (λn i=>∃j:Nat,j<=k/\i= iV ((j:Int)-1)/\n= uV (AO B (p+j) (k-j))) (λ_ i=>(intOf i+1).toNat)
 case atStart=>exact ⟨k,zx _,rfl,by rw [ya];rfl⟩
 case round=>
  obtain ⟨j,hj,rfl,rfl⟩:=hrel;rcases j with _|i
  ·go_wp2;go_ret;exact ⟨rfl,rfl⟩
  ·have E:=(AB HC) i om;have C:=(AB HB) (p+i);have hn:=bH HB (p+(i+1)) (k-(i+1)) om
   have st:AO B (p+i) (k-i)=B.getD (p+i) 0+256*AO B (p+(i+1)) (k-(i+1)):=by
    rw [show k-i=k-(i+1)+1 from om,AO];rfl
   generalize AO B (p+(i+1)) (k-(i+1))=n at*;generalize B.getD (p+i) 0=c at*;have e1:(((i+1:Nat):Int)-1)=(i:Int):=om;rw [e1];obtain ⟨y1,y2,y3⟩:=gf n c hn.1 hn.2 C.1 C.2;have y0:IntKind.u64.wrap c=c:=by rw [yh];omega
   have HS:=AC st;clear st e1 hn C;go_wp2
   go_round
   case rel=>exact ⟨i,om,rfl,by rw [AB HS]⟩
   case measure=>simp [intOf]
def BW (b off k D:Nat) (B:List Int) (p:Nat) (w:World) (hB:AK B) (hk:k<=8) (hc:∀j,j<k->w.cell? (xK b (off+j))=some (.int .u8 (B.getD (p+j) 0))):
  cT 102 #[sL b off k D] w λe w'=>e= .returned (uV (AO B p k))/\w'=w:=by
 have HB:=AC hB;have HC:=AC hc;clear hB hc;go_enter func102,ntmps102;go_wp2
 go_loop [3,4] (λn i=>∃j:Nat,j<=k/\i= iV ((j:Int)-1)/\n= uV (AO B (p+j) (k-j))) (λ_ i=>(intOf i+1).toNat)
 case atStart=>exact ⟨k,zx _,rfl,by rw [ya];rfl⟩
 case round=>
  obtain ⟨j,hj,rfl,rfl⟩:=hrel;rcases j with _|i
  ·go_wp2;go_ret;exact ⟨rfl,rfl⟩
  ·have E:=(AB HC) i om;have C:=(AB HB) (p+i);have hn:=bH HB (p+(i+1)) (k-(i+1)) om
   have st:AO B (p+i) (k-i)=B.getD (p+i) 0+256*AO B (p+(i+1)) (k-(i+1)):=by
    rw [show k-i=k-(i+1)+1 from om,AO];rfl
   generalize AO B (p+(i+1)) (k-(i+1))=n at*;generalize B.getD (p+i) 0=c at*;have e1:(((i+1:Nat):Int)-1)=(i:Int):=om;rw [e1];obtain ⟨y1,y2,y3⟩:=gf n c hn.1 hn.2 C.1 C.2;have y0:IntKind.u64.wrap c=c:=by rw [yh];omega
   have HS:=AC st;clear st e1 hn C y2;go_wp2
   go_round
   case rel=>exact ⟨i,om,rfl,by rw [AB HS]⟩
   case measure=>simp [intOf]
def Ch (b off C:Nat) (B:List Int) (p k:Nat) (w:World) (hB:AK B) (hk:k<=8) (G:0<k) (hp:p+k<=B.length) (D:B.length<=C) (E:B.length<=1000000) (hv:Am w b off B):
  cT 127 #[sL b off B.length C,iV p,iV k] w λe w'=>e= .returned (uV (AO B p k))/\w'=w:=by
 have H:=AC (Ry b (off+p) k (C-p) B p w hB hk (λj hj=>by rw [sd];exact hv (p+j) om));obtain ⟨q,hq⟩:=xE (p+k);have e1:(p:Int)+(k:Int)=(q:Int):=om;have e2:¬C=p:=om;have e3:q-p=k:=om;have e4:(p:Int)<=(q:Int):=om;have e5:(q:Int)<=(C:Int):=om;have e8:(q:Int)<=1000000:=om;clear hB hv hq;go_enter func127,ntmps127
 go_wp2_with fail
 refine H.mono ?_;rintro e w1 ⟨rfl,F⟩;subst F;go_wp2;go_ret;exact ⟨rfl,rfl⟩
structure Seg where
 perm:Int
 offs:Int
 addr:Int
 inFile:Int
 mem:Int
def D7 (B:List Int) (p:Nat):Seg:=⟨AO B (p+4) 4,AO B (p+8) 8,AO B (p+16) 8,AO B (p+32) 8,AO B (p+40) 8⟩
def NE (P:Int):Prop:=1<=P/\P<=7/\bits BinOp.and IntKind.u64 P 3≠3
def GW (B:List Int) (p:Nat):Prop:=AO B p 4=1/\NE (D7 B p).perm/\1<=(D7 B p).mem/\(D7 B p).inFile<=(D7 B p).mem/\(D7 B p).offs+(D7 B p).inFile<=(B.length:Int)/\
 (D7 B p).offs%256=(D7 B p).addr%256/\(D7 B p).addr+(D7 B p).mem<=65024
def Pw (hs:0<=s) (hc:0<=c) (h:s+c<=e) (he:e<1000000):cT 211 #[uV s,uV c,uV e] w λr w'=>r= .returned (.bool true)/\w'=w:=by
 have h1:c<=e:=om;have h2:s<=e-c:=om;have h3:IntKind.u64.wrap (e-c)=e-c:=by rw [yh];omega
 go_enter func211,ntmps211;go_wp2;go_ret;exact ⟨rfl,rfl⟩
def St (hs:0<=s) (hc:0<=c) (h:e<s+c) (he:e<1000000) (C:0<=e):cT 211 #[uV s,uV c,uV e] w λr w'=>r= .returned (.bool false)/\w'=w:=by
 by_cases h1:c<=e
 ·have h2:¬s<=e-c:=om;have h3:IntKind.u64.wrap (e-c)=e-c:=by rw [yh];omega
  go_enter func211,ntmps211;go_wp2;go_ret;exact ⟨rfl,rfl⟩
 ·go_enter func211,ntmps211;go_wp2;go_ret;exact ⟨rfl,rfl⟩
def Yc (h:NE P):cT 210 #[uV P] w λr w'=>r= .returned (.bool true)/\w'=w:=by
 obtain ⟨h1,h2,h3⟩:=h;have h4:(bits BinOp.and IntKind.u64 P 3 !=3)=true:=sU h3;clear h3;go_enter func210,ntmps210;go_wp2;go_ret;exact ⟨rfl,rfl⟩
def cY (h:¬NE P):cT 210 #[uV P] w λr w'=>r= .returned (.bool false)/\w'=w:=by
 by_cases h1:1<=P
 ·by_cases h2:P<=7
  ·have h3:bits BinOp.and IntKind.u64 P 3=3:=Decidable.byContradiction λe=>h ⟨h1,h2,e⟩;have h4:(bits BinOp.and IntKind.u64 P 3 !=3)=false:=sU h3;clear h3 h;go_enter func210,ntmps210;go_wp2;go_ret;exact ⟨rfl,rfl⟩
  ·clear h;go_enter func210,ntmps210;go_wp2;go_ret;exact ⟨rfl,rfl⟩
 ·clear h;go_enter func210,ntmps210;go_wp2;go_ret;exact ⟨rfl,rfl⟩
def II (off cap:Nat) (s:Seg):Nat:=if cap=s.offs.toNat then off else off+s.offs.toNat
def I0 (b off cap:Nat) (s:Seg):Value:= .agg #[.int .u8 s.perm,uV s.addr,sL b (II off cap s) s.inFile.toNat (cap-s.offs.toNat),iV (s.addr/256),iV ((s.addr+s.mem-1)/256)]
def Gj:Value:= .agg #[.int .u8 0,uV 0,sN,iV 0,iV 0]
def lI (b off cap:Nat) (B:List Int) (p:Nat) (w:World) (e:Ending) (w':World):Prop:=
 (GW B p/\e= .returned (.tuple #[I0 b off cap (D7 B p),.bool true])\/¬GW B p/\e= .returned (.tuple #[Gj,.bool false]))/\Bw w w'
def PF (b off D:Nat) (B:List Int) (p:Nat) (w:World) (hB:AK B) (G:B.length<=D) (H:B.length<=500000) (hv:Am w b off B) (a6:b<w.heap.size) (hp:p+56<=B.length):
  cT 170 #[sL b off B.length D,iV p] w λe w'=>lI b off D B p w e w':=by
 have HV:=AC hv;obtain ⟨a4,X⟩:∃a,a=p+4:=⟨_,rfl⟩;obtain ⟨P,hP⟩:∃x,x=AO B (p+4) 4:=⟨_,rfl⟩;have bP:=BP hB (p+4) 4 om;have NP:Hid (∀w',Am w' b off B->cT 127 #[sL b off B.length D,iV a4,iV 4] w' λe w''=>e= .returned (uV P)/\w''=w'):=AC (λw' h=>by rw [hP,X];exact Ch b off D B (p+4) 4 w' hB om om om om om h);have e4:(p:Int)+4=(a4:Int):=om;obtain ⟨a8,a1⟩:∃a,a=p+8:=⟨_,rfl⟩;obtain ⟨O,hO⟩:∃x,x=AO B (p+8) 8:=⟨_,rfl⟩;have bO:=BP hB (p+8) 8 om;have NO:Hid (∀w',Am w' b off B->cT 127 #[sL b off B.length D,iV a8,iV 8] w' λe w''=>e= .returned (uV O)/\w''=w'):=AC (λw' h=>by rw [hO,a1];exact Ch b off D B (p+8) 8 w' hB om om om om om h);have e8:(p:Int)+8=(a8:Int):=om;obtain ⟨V,R⟩:∃a,a=p+16:=⟨_,rfl⟩;obtain ⟨A,hA⟩:∃x,x=AO B (p+16) 8:=⟨_,rfl⟩;have bA:=BP hB (p+16) 8 om
 have NA:Hid (∀w',Am w' b off B->cT 127 #[sL b off B.length D,iV V,iV 8] w' λe w''=>e= .returned (uV A)/\w''=w'):=AC (λw' h=>by rw [hA,R];exact Ch b off D B (p+16) 8 w' hB om om om om om h);have a5:(p:Int)+16=(V:Int):=om;obtain ⟨a3,J⟩:∃a,a=p+32:=⟨_,rfl⟩;obtain ⟨F,hF⟩:∃x,x=AO B (p+32) 8:=⟨_,rfl⟩;have bF:=BP hB (p+32) 8 om;have NF:Hid (∀w',Am w' b off B->cT 127 #[sL b off B.length D,iV a3,iV 8] w' λe w''=>e= .returned (uV F)/\w''=w'):=AC (λw' h=>by rw [hF,J];exact Ch b off D B (p+32) 8 w' hB om om om om om h);have a9:(p:Int)+32=(a3:Int):=om;obtain ⟨Z,N⟩:∃a,a=p+40:=⟨_,rfl⟩;obtain ⟨M,hM⟩:∃x,x=AO B (p+40) 8:=⟨_,rfl⟩;have bM:=BP hB (p+40) 8 om;have NM:Hid (∀w',Am w' b off B->cT 127 #[sL b off B.length D,iV Z,iV 8] w' λe w''=>e= .returned (uV M)/\w''=w'):=AC (λw' h=>by rw [hM,N];exact Ch b off D B (p+40) 8 w' hB om om om om om h)
 have a7:(p:Int)+40=(Z:Int):=om;obtain ⟨K,hK⟩:∃x,x=AO B p 4:=⟨_,rfl⟩;have bK:=BP hB p 4 om;have NK:Hid (∀w',Am w' b off B->cT 127 #[sL b off B.length D,iV p,iV 4] w' λe w''=>e= .returned (uV K)/\w''=w'):=AC (λw' h=>by rw [hK];exact Ch b off D B p 4 w' hB om om om om om h)
 have Y:GW B p↔(K=1/\NE P/\1<=M/\F<=M/\O+F<=(B.length:Int)/\O%256=A%256/\A+M<=65024):=by
  rw [hK,hP,hM,hF,hO,hA];rfl
 have L:D7 B p=⟨P,O,A,F,M⟩:=by rw [hP,hM,hF,hO,hA];rfl
 rw [<-hP] at bP;rw [<-hO] at bO;rw [<-hA] at bA;rw [<-hF] at bF;rw [<-hM] at bM;rw [<-hK] at bK;have E:=AC Y;have a0:=AC L;obtain ⟨P0,P1⟩:=bP;obtain ⟨O0,O1⟩:=bO;obtain ⟨A0,A1⟩:=bA;obtain ⟨F0,F1⟩:=bF;obtain ⟨M0,M1⟩:=bM;clear hB hv Y L hP hO hA hF hM hK X a1 R J N bK P1 O1 A1 F1 M1;have a2:Am (w.alloc (.cells #[.int .u8 0,uV 0,sN,iV 0,iV 0] 269)) b off B:=HV.below bA a6;have I:=AC a2;have U:(B.length:Int)<1000000:=om;have T:(0:Int)<=(B.length:Int):=om;clear a2;go_enter func170,ntmps170
 go_wp2_with fail
 refine (AB NP _ I).mono ?_;rintro e w1 ⟨rfl,C⟩;subst C
 go_wp2_with fail
 refine (AB NO _ I).mono ?_;rintro e w1 ⟨rfl,C⟩;subst C
 go_wp2_with fail
 refine (AB NA _ I).mono ?_;rintro e w1 ⟨rfl,C⟩;subst C
 go_wp2_with fail
 refine (AB NF _ I).mono ?_;rintro e w1 ⟨rfl,C⟩;subst C
 go_wp2_with fail
 refine (AB NM _ I).mono ?_;rintro e w1 ⟨rfl,C⟩;subst C
 go_wp2_with fail
 refine (AB NK _ I).mono ?_;rintro e w1 ⟨rfl,C⟩;subst C;clear e4 e8 a5 a9 a7 NP NO NA NF NM NK;have y0:IntKind.u64.wrap (B.length:Int)=(B.length:Int):=by rw [yh];omega
 have HL:=AC (xi U (xi T (xi G (xi H hp))));clear U T G H hp;by_cases t1:K=1
 case neg=>
  have f1:(K !=1)=true:=sU t1;have T1:=AC t1;clear t1;go_wp2;exact xh (v:= .tuple #[Gj,.bool false]) (by simp [results,results170,go_sem,Gj]) rfl ⟨.inr ⟨λh=>AB T1 (E.1 h).1,rfl⟩,bA⟩
 have f1:(K !=1)=false:=sU t1;have T1:=AC t1;clear t1
 go_wp2_with fail
 by_cases t2:NE P
 case neg=>
  refine (cY P _ t2).mono ?_;rintro e w1 ⟨rfl,C⟩;subst C;have T2:=AC t2;clear t2;go_wp2;exact xh (v:= .tuple #[Gj,.bool false]) (by simp [results,results170,go_sem,Gj]) rfl ⟨.inr ⟨λh=>AB T2 (E.1 h).2.1,rfl⟩,bA⟩
 refine (Yc P _ t2).mono ?_;rintro e w1 ⟨rfl,C⟩;subst C;have T2:=AC t2;have P7:P<=7:=t2.2.1;clear t2;by_cases t3:1<=M
 case neg=>
  have f3:(M==0)=true:=sO;go_wp2;exact xh (v:= .tuple #[Gj,.bool false]) (by simp [results,results170,go_sem,Gj]) rfl ⟨.inr ⟨λh=>by (have:=(E.1 h).2.2.1;omega),rfl⟩,bA⟩
 have f3:(M==0)=false:=sO;by_cases t4:F<=M
 case neg=>
  go_wp2;exact xh (v:= .tuple #[Gj,.bool false]) (by simp [results,results170,go_sem,Gj]) rfl ⟨.inr ⟨λh=>by (have:=(E.1 h).2.2.2.1;omega),rfl⟩,bA⟩
 go_wp2_with fail
 by_cases t5:O+F<=(B.length:Int)
 case neg=>
  refine (St O F (B.length:Int) _ O0 F0 om HL.1 HL.2.1).mono ?_;rintro e w1 ⟨rfl,C⟩;subst C;go_wp2;exact xh (v:= .tuple #[Gj,.bool false]) (by simp [results,results170,go_sem,Gj]) rfl ⟨.inr ⟨λh=>by (have:=(E.1 h).2.2.2.2.1;omega),rfl⟩,bA⟩
 refine (Pw O F (B.length:Int) _ O0 F0 t5 HL.1).mono ?_;rintro e w1 ⟨rfl,C⟩;subst C;by_cases t6:O%256=A%256
 case neg=>
  have f6:(O%256 !=A%256)=true:=sU t6;have T6:=AC t6;clear t6;go_wp2;exact xh (v:= .tuple #[Gj,.bool false]) (by simp [results,results170,go_sem,Gj]) rfl ⟨.inr ⟨λh=>AB T6 (E.1 h).2.2.2.2.2.1,rfl⟩,bA⟩
 have f6:(O%256 !=A%256)=false:=sU t6;have T6:=AC t6;clear t6
 go_wp2_with fail
 by_cases t7:A+M<=65024
 case neg=>
  refine (St A M 65024 _ A0 M0 om om om).mono ?_;rintro e w1 ⟨rfl,C⟩;subst C;go_wp2;exact xh (v:= .tuple #[Gj,.bool false]) (by simp [results,results170,go_sem,Gj]) rfl ⟨.inr ⟨λh=>by (have:=(E.1 h).2.2.2.2.2.2;omega),rfl⟩,bA⟩
 refine (Pw A M 65024 _ A0 M0 t7 om).mono ?_;rintro e w1 ⟨rfl,C⟩;subst C;obtain ⟨o,rfl⟩:=Int.eq_ofNat_of_zero_le O0;obtain ⟨f,rfl⟩:=Int.eq_ofNat_of_zero_le F0;obtain ⟨U,T,G,H,hp⟩:=AB HL;obtain ⟨q,hq⟩:=xE (o+f);have g1:(o:Int)+(f:Int)=(q:Int):=om;have g3:q-o=f:=om;have g4:o<=q:=om;have g5:q<=D:=om;have g6:(q:Int)<=(D:Int):=om;have g7:(o:Int)<=(q:Int):=om;have g8:(q:Int)<1000000:=om;clear hq f6 f1;by_cases g2:D=o
 ·go_wp2;exact xh (v:= .tuple #[I0 b off D ⟨P,(o:Int),A,(f:Int),M⟩,.bool true]) (by simp [results,results170,go_sem,I0,II,g2]) rfl ⟨.inl ⟨E.2 ⟨AB T1,AB T2,t3,t4,t5,AB T6,t7⟩,by rw [AB a0]⟩,bA⟩
 go_wp2;exact xh (v:= .tuple #[I0 b off D ⟨P,(o:Int),A,(f:Int),M⟩,.bool true]) (by simp [results,results170,go_sem,I0,II,g2]) rfl ⟨.inl ⟨E.2 ⟨AB T1,AB T2,t3,t4,t5,AB T6,t7⟩,by rw [AB a0]⟩,bA⟩
section
open Shelf
def VV:Go.Shelf.Ren:=⟨fun|6=>123|15=>172|14=>171|28=>220|29=>221|20=>212|21=>213|22=>214|23=>215|24=>216|25=>217|26=>218|27=>219|46=>284|47=>285|48=>286|49=>287|50=>288|57=>351|n=>n,fun|22=>264|24=>269|25=>271|3=>3|39=>234|0=>0|53=>385|55=>73|4=>4|46=>379|45=>378|50=>262|5=>5|9=>9|66=>404|70=>408|76=>474|77=>128|n=>n,fun|n=>n⟩
def lK:Go.Proofs.SlLaysF0.n6 prog VV:={
 mixed:=kf
 f6:=⟨Tryz.f123.name,dz,func123.trans (congrArg some kf)⟩
 f14:=⟨Tryz.f171.name,dz,func171.trans (congrArg some kf)⟩
 f15:=func172.trans (congrArg some kf)
 f20:=⟨Tryz.f212.name,dz,func212.trans (congrArg some kf)⟩
 f21:=⟨Tryz.f213.name,dz,func213.trans (congrArg some kf)⟩
 f22:=⟨Tryz.f214.name,dz,func214.trans (congrArg some kf)⟩
 f23:=⟨Tryz.f215.name,dz,func215.trans (congrArg some kf)⟩
 f24:=⟨Tryz.f216.name,dz,func216.trans (congrArg some kf)⟩
 f25:=⟨Tryz.f217.name,dz,func217.trans (congrArg some kf)⟩
 f26:=⟨Tryz.f218.name,dz,func218.trans (congrArg some kf)⟩
 f27:=⟨Tryz.f219.name,dz,func219.trans (congrArg some kf)⟩
 f28:=func220.trans (congrArg some kf)
 f29:=func221.trans (congrArg some kf)
 f46:=⟨Tryz.f284.name,dz,func284.trans (congrArg some kf)⟩
 f47:=func285.trans (congrArg some kf)
 f48:=func286.trans (congrArg some kf)
 f49:=⟨Tryz.f287.name,dz,func287.trans (congrArg some kf)⟩
 f50:=⟨Tryz.f288.name,dz,func288.trans (congrArg some kf)⟩
 f57:=⟨Tryz.f351.name,dz,func351.trans (congrArg some kf)⟩
 t0:=underlying0
 a0:=isAgg0
 z0:=sizeOf0
 v0:=zeroValue0
 t3:=underlying3
 a3:=isAgg3
 z3:=sizeOf3
 v3:=zeroValue3
 t4:=underlying4
 a4:=isAgg4
 z4:=sizeOf4
 v4:=zeroValue4
 t5:=underlying5
 a5:=isAgg5
 z5:=sizeOf5
 v5:=zeroValue5
 t9:=underlying9
 a9:=isAgg9
 z9:=sizeOf9
 v9:=zeroValue9
 t22:=underlying264
 a22:=isAgg264
 z22:=sizeOf264
 v22:=zeroValue264
 t25:=underlying271
 a25:=isAgg271
 z25:=sizeOf271
 v25:=zeroValue271
 t39:=underlying234
 a39:=isAgg234
 z39:=sizeOf234
 v39:=zeroValue234
 t45:=underlying378
 a45:=isAgg378
 z45:=sizeOf378
 v45:=zeroValue378
 t46:=underlying379
 a46:=isAgg379
 z46:=sizeOf379
 v46:=zeroValue379
 t50:=underlying262
 a50:=isAgg262
 z50:=sizeOf262
 v50:=zeroValue262
 t53:=underlying385
 a53:=isAgg385
 z53:=sizeOf385
 v53:=zeroValue385
 t55:=underlying73
 a55:=isAgg73
 z55:=sizeOf73
 v55:=zeroValue73
 t66:=underlying404
 a66:=isAgg404
 z66:=sizeOf404
 v66:=zeroValue404
 t70:=underlying408
 a70:=isAgg408
 z70:=sizeOf408
 v70:=zeroValue408
 t76:=underlying474
 a76:=isAgg474
 z76:=sizeOf474
 v76:=zeroValue474
 t77:=underlying128
 a77:=isAgg128
 z77:=sizeOf128
 v77:=zeroValue128}
def VW:Go.Shelf.Ren:=⟨fun|125=>172|128=>220|129=>221|n=>n,fun|46=>234|3=>3|51=>385|53=>73|4=>4|5=>5|9=>9|n=>n,fun|n=>n⟩
def lL:Go.Proofs.Lays.n125 prog VW:={
 mixed:=kf
 f125:=func172.trans (congrArg some kf)
 f128:=func220.trans (congrArg some kf)
 f129:=func221.trans (congrArg some kf)
 t3:=underlying3
 a3:=isAgg3
 z3:=sizeOf3
 v3:=zeroValue3
 t4:=underlying4
 a4:=isAgg4
 z4:=sizeOf4
 v4:=zeroValue4
 t5:=underlying5
 a5:=isAgg5
 z5:=sizeOf5
 v5:=zeroValue5
 t9:=underlying9
 a9:=isAgg9
 z9:=sizeOf9
 v9:=zeroValue9
 t46:=underlying234
 a46:=isAgg234
 z46:=sizeOf234
 v46:=zeroValue234
 t51:=underlying385
 a51:=isAgg385
 z51:=sizeOf385
 v51:=zeroValue385
 t53:=underlying73
 a53:=isAgg73
 z53:=sizeOf73
 v53:=zeroValue73}
end
end Go.Proofs.YtpcjkidgohpeoaaGreatDoor
