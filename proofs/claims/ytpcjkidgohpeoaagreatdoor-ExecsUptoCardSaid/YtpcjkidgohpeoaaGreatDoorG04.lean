import Derived.Lib.BufferWrite
import Derived.Test.YtpcjkidgohpeoaaGreatDoorG02
import Derived.Deep.OwnRows
import Derived.Deep.QuietTactic
import Derived.BigQuiet
import Derived.Lib.Bytealg
import Derived.ChangeKeysEq
import Derived.Laws.StructEq
import Derived.Deep.MidRow
import Derived.Laws.BytesArg
set_option maxRecDepth 100000
set_option maxHeartbeats 2000000
set_option linter.all false
namespace Go.Proofs.YtpcjkidgohpeoaaGreatDoor
open RowKit Proofs.Tryz
variable {g k j:Nat} {P:Program} {ops:Array Oper} {o:Oper} {K:Act->World->Prop} {Q:Exit->Act->World->Prop} {E:Prop} {s:ByteArray} {ss:List ByteArray} {rest:List Oper} {W:World} (aa ab a:Option Addr) (ws R L:List Int) (ga n b off len cap:Nat) (x:Int) (xs B:List Int) (w:World)
def MH {w:World} (cs:Array Value):w.grownBy (w.setRow g cs) (some g):=
 ⟨rfl,rfl,rfl,by simp [World.setRow],λk hk C=>setRow_other w g k cs (λe=>C (by simp [e]))⟩
def IH {a:Act} {w:World} (N:o.guard=none) (d s:Operand) (dT sT:TypeId)
  (ho:o.op= .call {callee:= .builtin .copy,args:=#[d,s],argTypes:=#[dT,sT]}) (D:TypeId) (hu:P.underlying dT=some (.slice D)) (O:(P.info? D).map (·.size)=some 1)
  (g off F G:Nat) (C:ByteArray) (hd:a.eval d= sL g off F G) (hs:a.eval s= .string C)
  (H:List Value) (t:TypeId) (hg:AE w g t H) (T:C.size<=F) (M:off+C.size<=H.length)
  (h:∀w',Hid (AE w' g t (splice H off (Lib.byteCells C.data.toList)))->w.grownBy w' (some g)->K (a.put o.dst (goInt C.size)) w'):
  if Region.wanted o (yielded ops a.tmps)=true then Oper.wp P o a w K Q else E:=by
 have hw:Region.wanted o (yielded ops a.tmps)=true:=by simp [Region.wanted,N]
 rw [vu hw];have J:=Lib.run_copy_row_string (P:=P) w dT sT o.type D g off F G C H.toArray t hu O hg T (sU M);have I:(Lib.byteCells C.data.toList).length=C.size:=by rw [Lib.byteCells_length,<-Lib.size_eq]
 unfold Oper.wp;simp [execOp,ho,resolve,invoke,builtin,hd,hs,J,Result.andThen];refine h _ ?_ (MH _);show AE _ _ _ _;unfold AE;rw [setRow_heap w g _ _ t _ hg];unfold splice;rw [I]
def FQ {a:Act} {w:World} (O:o.guard=none) (d s:Operand) (dT sT:TypeId)
  (ho:o.op= .call {callee:= .builtin .copy,args:=#[d,s],argTypes:=#[dT,sT]}) (C:TypeId) (hu:P.underlying dT=some (.slice C)) (T:(P.info? C).map (·.size)=some 1)
  (g off D G:Nat) (q qo F H:Nat) (hd:a.eval d= sL g off D G) (hs:a.eval s= sL q qo F H)
  (I:List Value) (t:TypeId) (hg:AE w g t I) (cs:List Value) (hn:cs.length=Nat.min F D) (N:∀j v,cs[j]? =some v->w.cell? (xK q (qo+j))=some v)
  (h1:∀v∈cs,v.oneCell'=true) (M:off+cs.length<=I.length)
  (h:∀w',Hid (AE w' g t (splice I off cs))->w.grownBy w' (some g)->K (a.put o.dst (goInt cs.length)) w'):
  if Region.wanted o (yielded ops a.tmps)=true then Oper.wp P o a w K Q else E:=by
 have hw:Region.wanted o (yielded ops a.tmps)=true:=by simp [Region.wanted,O]
 rw [vu hw];have J:=run_copy_row (P:=P) w dT sT o.type C g off D G (xK q qo) F H I.toArray t cs hu T hg hn (λj v hv=>by rw [show ((xK q qo):Addr).add j=(xK q (qo+j)) from by unfold Addr.add;split<;>simp_all];exact N j v hv) (sU M) h1;unfold Oper.wp;simp [execOp,ho,resolve,invoke,builtin,hd,hs,J,Result.andThen];refine h _ ?_ (MH _);show AE _ _ _ _;unfold AE;rw [setRow_heap w g _ _ t _ hg];simp [splice]
def Jf (oa ca gb ob cb:Nat) (B:List Int) (w:World) (ha:0<B.length->aa=some (xK ga oa)) (hb:0<B.length->ab=some (xK gb ob))
  (hA:Am w ga oa B) (hB:Am w gb ob B) (hn:B.length<=1000000):
  cT 28 #[.slice aa B.length ca,.slice ab B.length cb] w λe w'=>e= .returned (.bool true)/\w'.heap=w.heap/\Bw w w':=by
 obtain ⟨HA,HB,H,I⟩:=H4 hA hB ha hb;clear hA hB ha hb;go_enter func28,ntmps28;go_wp2
 go_loopw [5] (λi wr=>∃k:Nat,k<=B.length/\i= iV k/\wr.heap=w.heap/\Bw w wr) (λi _=>B.length-(intOf i).toNat)
 case atStart=>exact ⟨0,om,rfl,rfl,zw _ _⟩
 case round=>
  obtain ⟨k,hk,rfl,hh,F⟩:=hrel;have HH:=AC hh;have D:=AC F;clear hh F;by_cases G:k<B.length
  ·have e1:=(AB H) om;have e2:=(AB I) om;subst e1 e2;have C:∀a,wr.cell? a=w.cell? a:=λa=>by unfold World.cell?;rw [AB HH]
   have c1:wr.cell? (xK ga (oa+k))=some (.int .u8 (B.getD k 0)):=by rw [C];exact (AB HA) k G
   have c2:wr.cell? (xK gb (ob+k))=some (.int .u8 (B.getD k 0)):=by rw [C];exact (AB HB) k G
   generalize B.getD k 0=x at c1 c2;have M:(0:Int)<=(k:Int):=om;have J:(k:Int)<(B.length:Int):=om;clear C;go_wp2
   go_quiet (fail)
   go_wp2
   go_roundw
   case rel=>exact ⟨k+1,om,by go_num,AB HH,⟨D.os,D.tape,D.output,D.size,D.block⟩⟩
   case measure=>simp [intOf];omega
  ·go_wp2;go_ret;exact ⟨rfl,AB HH,AB D⟩
def M9:(prog.info? 5).map (λi=>(i.zero,i.size,i.bytes))=some (some (.int .u8 0),1,1):=kf
def N0:(prog.info? 5).map (·.size)=some 1:=kf
def CW (n:Nat):Array Value:=(AF (List.replicate n 0)).toArray
def Hd:madeCells #[.int .u8 0] n=CW n:=by
 unfold madeCells CW AF;apply Array.ext
 ·simp
 ·intro i h1 h2;simp [Nat.mod_one]
def cU:((splice (List.replicate (B.length+2) 0) 0 B).set B.length 71).set (B.length+1) 72=B++[71,72]:=by
 have e:splice (List.replicate (B.length+2) 0) 0 B=B++[0,0]:=by
  unfold splice;rw [List.drop_replicate,show B.length+2-(0+B.length)=2 from om];rfl
 rw [e,ul _ _ (zx _),ul _ _ om];simp
def C4:∀v∈AF L,v.oneCell'=true:=by
 intro v hv;obtain ⟨x,_,rfl⟩:=yt.1 hv;rfl
def Ah (o j:Nat):((xK b o):Addr).add j=(xK b (o+j)):=by unfold Addr.add;split<;>simp_all
def NC (ha:0<B.length->a=some (xK b off)) (hv:Am w b off B) (I:0<B.length->b<w.heap.size) (hn:B.length<=1000000):
  cT 16 #[.slice a B.length cap] w λe w'=>e= .returned (sL w.heap.size 0 B.length (B.length+2))/\AE w' w.heap.size 5 (AF (B++[71,72]))/\Bw w w':=by
 have T:∀w,(Instr.makeSlice 36 (iV ((B.length:Int)+2)) (iV ((B.length:Int)+2))).run prog w= .ok (sL w.heap.size 0 (B.length+2) (B.length+2)) (w.alloc (.cells (CW (B.length+2)) 5)):=by
  intro w;have:=run_make_row' (P:=prog) 36 5 (.int .u8 0) 1 underlying36 M9 rfl .i64 .i64 (B.length+2) om om w;rwa [show (((B.length+2:Nat)):Int)=(B.length:Int)+2 from om,Hd] at this
 have C:0<(AF B).length->(some (xK w.heap.size 0):Option Addr)=some (xK w.heap.size 0)/\∃ad,a=some ad/\∀j v,(AF B)[j]? =some v->(w.alloc (.cells (CW (B.length+2)) 5)).cell? (ad.add j)=some v:=by
  intro h0;rw [AG] at h0;refine ⟨rfl,(xK b off),ha h0,λj v hj=> ?_⟩;have hl:=(zy.1 hj).1;rw [AG] at hl;rw [AN _ _ hl] at hj;rw [Ah,Below.cell ((zw _ w).alloc (zx _) _) (p:=(xK b (off+j))) (I h0),hv j hl];exact hj
 have F:=AC C;clear ha hv I C;go_enter func16,ntmps16
 go_wp2_with (
        refine wpList_copy_splice rfl _ _ 36 36 rfl 5 underlying36 N0 (some (xK w.heap.size 0)) a (B.length+2) (B.length+2) B.length cap rfl rfl w.heap.size 0 (AF (List.replicate (B.length+2) 0)) 5 (AE.new _ _ _) (AF B) (by rw [AG];simp only [Nat.min_def];split<;>omega) (AB F) (by rw [AG,AG];simp) (C4 _) w.heap.size w bA (zx _) ?_;intro w1 H1 J
        have hh:AE w1 w.heap.size 5 (AF (splice (List.replicate (B.length+2) 0) 0 B)):=by
         rw [<-CD];exact AB H1
        have hl:(splice (List.replicate (B.length+2) 0) 0 B).length=B.length+2:=by rw [BJ _ _ _ sI];simp
        have H:=AC (cU B);generalize splice (List.replicate (B.length+2) 0) 0 B=R at hh hl H;have c1:=hh.cell (AN R B.length om);have f1:=hh.frozen B.length;have D:=hh.set B.length (.int .u8 71);have c2:(w1.setCell (xK w.heap.size B.length) (.int .u8 71)).cell? (xK w.heap.size (B.length+1))=some (.int .u8 ((R.set B.length 71).getD (B.length+1) 0)):=D.cell (by rw [Cz];exact AN _ _ (by rw [yu];omega));have f2:=D.frozen (B.length+1);have G:=D.set (B.length+1) (.int .u8 72);rw [Cz,Cz,AB H] at G;have M:=(J.setCell (p:=(xK w.heap.size B.length)) (zx _) (.int .u8 71)).setCell (p:=(xK w.heap.size (B.length+1))) (zx _) (.int .u8 72);have O:=AC G;have N:=AC M;generalize R.getD B.length 0=x1 at c1;generalize (R.set B.length 71).getD (B.length+1) 0=x2 at c2;clear hh D G M H1 J hl H
        have k1:(B.length:Int)<(B.length:Int)+2:=by omega)
 go_ret;exact ⟨rfl,AB O,AB N⟩
def Yb {w wr:World} {t:TypeId} {L:List Int} {n:Nat} (h:AE wr g t (AF L)) (hL:L.length=n) (hr:w.grownBy wr (some g)) (k:Nat) (y:Int):
  ∃L:List Int,L.length=n/\AE (wr.setCell (xK g k) (.int .u8 y)) g t (AF L)/\w.grownBy (wr.setCell (xK g k) (.int .u8 y)) (some g):=
 ⟨L.set k y,by rw [yu];exact hL,by rw [<-Cz];exact h.set k _,AI hr _ _⟩
def ND (g:Nat) (a:Option Addr) (b off cap:Nat) (B:List Int) (w:World) (hg:AE w g 5 (AF (B++[71,72]))) (ha:0<B.length->a=some (xK b off)) (hv:Am w b off B) (hn:B.length<=1000000):
  cT 17 #[sL g 0 B.length (B.length+2),.slice a B.length cap] w λe w'=>e= .returned (.bool true)/\w.grownBy w' (some g):=by
 have hA:Am w g 0 B:=λj hj=>by
  rw [zq];refine hg.cell ?_;rw [AN _ _ sO];simp [List.getD,zo hj]
 have HS:=AC (Jf (some (xK g 0)) a g 0 (B.length+2) b off cap B w (λ_=>rfl) ha hA hv hn);have HG:=AC hg;clear hA hg ha hv;go_enter func17,ntmps17
 go_wp2_with fail
 refine HS.mono ?_;rintro e w1 ⟨rfl,G,D⟩;have F:=HG.heap G;have c1:w1.cell? (xK g B.length)=some (.int .u8 71):=F.cell (by simp [AF]);have c2:w1.cell? (xK g (B.length+1))=some (.int .u8 72):=F.cell (by simp [AF]);have C:w.grownBy w1 (some g):=⟨D.os,D.tape,D.output,D.size,λk hk _=>D.block k hk⟩;have J:=AC F;have I:=AC C;clear G D F C HS;have k1:(B.length:Int)<(B.length:Int)+2:=om;go_wp2
 go_loopw [8] (λi wr=>∃k:Nat,k<=B.length+2/\i= iV k/\∃L:List Int,L.length=B.length+2/\AE wr g 5 (AF L)/\w.grownBy wr (some g)) (λi _=>B.length+2-(intOf i).toNat)
 case atStart=>exact ⟨0,om,rfl,B++[71,72],sI,AB J,AB I⟩
 case round=>
  obtain ⟨k,hk,rfl,L,hL,hh,C⟩:=hrel;have HH:=AC hh;have HR:=AC C;clear c1 c2;by_cases M:k<B.length+2
  ·have c1:=hh.cell (AN L k om);have f1:=hh.frozen k;generalize L.getD k 0=x at c1;have N:(0:Int)<=(k:Int):=om;have H:(k:Int)<(B.length:Int)+2:=om;clear hh C;go_wp2
   go_roundw
   case rel=>exact ⟨k+1,om,by go_num,Yb HH hL HR k _⟩
   case measure=>simp [intOf];omega
  ·clear hh C;have H:¬(k:Int)<(B.length:Int)+2:=om;go_wp2;go_ret;exact ⟨rfl,AB HR⟩
def bI (t:TypeId) (L:List Int) (p:Nat) (n:Int) (w:World) (C:AE w b t (AF L)) (hp:p+8<=len) (hL:off+len<=L.length) (hl:L.length<=100000) (n0:0<=n):
  cT 137 #[sL b off len cap,iV p,uV n] w λe w'=>e= .returned (.tuple #[])/\AE w' b t (AF (splice L (off+p) (Fm n)))/\w.grownBy w' (some b):=by
 have h8:=ET n;have H8:=AC h8;have HW:=AC C;clear h8 C;go_enter func137,ntmps137;go_wp2
 go_loopw [6] (λi wr=>∃k:Nat,k<=8/\i= iV k/\AE wr b t (AF (splice L (off+p) ((Fm n).take k)))/\w.grownBy wr (some b)) (λi _=>8-(intOf i).toNat)
 case atStart=>exact ⟨0,om,rfl,by rw [List.take_zero,En];exact AB HW,zj _ _⟩
 case round=>
  obtain ⟨k,hk,rfl,hr,hg⟩:=hrel;by_cases D:k<8
  ·have ht:off+p+((Fm n).take k).length<=L.length:=by rw [yr,AB H8];omega
   have hc:∀j,j<L.length->wr.cell? (xK b j)=some (.int .u8 ((splice L (off+p) ((Fm n).take k)).getD j 0)):=λj hj=>hr.bytes j (by rw [BJ _ _ _ ht];exact hj);have hf:∀j,wr.frozen? (xK b j)=false:=λj=>hr.frozen j;have H:off+(p+k)<L.length:=om;have R:=hr.set (off+(p+k)) (.int .u8 (n/2^(8*k)%256));rw [Cz,<-sd,Hc L (off+p) (Fm n) k _ (Pr n k D) (by rw [AB H8];omega),sd] at R;have G:=AI hg (off+(p+k)) (.int .u8 (n/2^(8*k)%256));have HR:=AC R;have F:=AC G;clear hr hg ht R G;go_wp2
   go_roundw
   case rel=>exact ⟨k+1,om,by go_num,AB HR,AB F⟩
   case measure=>simp [intOf];omega
  ·have e:k=8:=om;subst e;have HR:=AC hr;clear hr;go_wp2;go_end0;refine ⟨rfl,?_,hg⟩;have:=AB HR;rwa [xx (by rw [AB H8];omega)] at this
def UA (t:TypeId) (L:List Int) (q H:Nat) (tq:TypeId) (ws:List Int) (w:World) (C:AE w b t (AF L)) (I:AE w q tq (Dt ws)) (T:q≠b)
  (hp:8*ws.length<=len) (hL:off+len<=L.length) (hl:L.length<=100000):
  cT 131 #[sL b off len cap,sL q 0 ws.length H] w λe w'=>e= .returned (.tuple #[])/\AE w' b t (AF (splice L off (Cg ws)))/\w.grownBy w' (some b):=by
 have h8:=FO ws;have H8:=AC h8;have HW:=AC C;have HQ:=AC I;clear h8 C I;go_enter func131,ntmps131;go_wp2
 go_loopw [9] (λi wr=>∃k:Nat,k<=ws.length/\i= iV k/\AE wr b t (AF (splice L off ((Cg ws).take (8*k))))/\w.grownBy wr (some b)) (λi _=>ws.length-(intOf i).toNat)
 case atStart=>exact ⟨0,om,rfl,by rw [Nat.mul_zero,List.take_zero,En];exact AB HW,zj _ _⟩
 case round=>
  obtain ⟨k,hk,rfl,hr,hg⟩:=hrel;by_cases J:k<ws.length
  ·obtain ⟨x,hx⟩:=xE (ws.getD k 0);have hq:wr.cell? (xK q k)=some (uV x):=by rw [hx];exact (HQ.grown hg sO).cell (MC ws k J)
   have HX:=AC hx;clear hx;have HR:=AC hr;have N:=AC hg;clear hr hg;go_wp2
   go_loopw [14] (λi wr=>∃m:Nat,m<=8/\i= iV m/\AE wr b t (AF (splice L off ((Cg ws).take (8*k+m))))/\w.grownBy wr (some b)) (λi _=>8-(intOf i).toNat)
   case atStart=>exact ⟨0,om,rfl,AB HR,AB N⟩
   case round=>
    obtain ⟨m,hm,rfl,hr,hg⟩:=hrel;by_cases M:m<8
    ·have ht:off+((Cg ws).take (8*k+m)).length<=L.length:=by rw [yr,AB H8];omega
     have hc:∀j,j<L.length->wr.cell? (xK b j)=some (.int .u8 ((splice L off ((Cg ws).take (8*k+m))).getD j 0)):=λj hj=>hr.bytes j (by rw [BJ _ _ _ ht];exact hj);have hf:∀j,wr.frozen? (xK b j)=false:=λj=>hr.frozen j;have O:off+(k*8+m)<L.length:=om;have R:=hr.set (off+(k*8+m)) (.int .u8 (x/2^(8*m)%256));rw [Cz,show k*8+m=8*k+m from om,Hc L off (Cg ws) (8*k+m) _ (by rw [AB HX];exact YW ws k m M J) (by rw [AB H8];omega),show 8*k+m=k*8+m from om] at R;have G:=AI hg (off+(k*8+m)) (.int .u8 (x/2^(8*m)%256));have F:=AC R;have D:=AC G;clear hr hg ht R G;go_wp2
     go_roundw
     case rel=>exact ⟨m+1,om,by go_num,by have:=AB F;rwa [show k*8+m+1=8*k+(m+1) from om] at this,AB D⟩
     case measure=>simp [intOf];omega
    ·have e:m=8:=om;subst e;have F:=AC hr;have D:=AC hg;clear hr hg;go_wp2
     go_roundw
     case rel=>exact ⟨k+1,om,by go_num,by have:=AB F;rwa [show 8*k+8=8*(k+1) from om] at this,AB D⟩
     case measure=>simp [intOf];omega
  ·have e:k=ws.length:=om;subst e;have HR:=AC hr;clear hr;go_wp2;go_end0;refine ⟨rfl,?_,hg⟩;have:=AB HR;rwa [xx (by rw [AB H8];omega)] at this
def MJ (l:List UInt8) (c:UInt8):0<=Lib.indexByte l c↔c∈l:=by
 induction l with
 |nil=>simp [Lib.indexByte]
 |cons b l ih=>
  unfold Lib.indexByte;by_cases h:b=c
  ·simp [h]
  ·have h':c≠b:=λe=>h e.symm;simp only [vp,h',false_or,<-ih];have C:(b==c)=false:=sU h;simp only [C];simp only [Bool.false_eq_true,if_false];by_cases g:Lib.indexByte l c= -1
   ·simp [g]
   ·have g':(Lib.indexByte l c== -1)=false:=sU g;simp only [g',Bool.false_eq_true,if_false];constructor<;>intro<;>omega
def Sv (s:ByteArray) (w:World):cT 175 #[.string s,.int .u8 0] w λe w'=>e= .returned (iV (Lib.indexByte s.data.toList 0))/\w'=w:=by
 have C:= @run_callFunc_extern prog 289 _ Extern.BytealgIndexByte.indexByte func289 kf kf kf kf;have hr:∀w,(Extern.BytealgIndexByte.indexByte #[.string s,.int .u8 0]).run prog w= .ok (iV (Lib.indexByte s.data.toList 0)) w:=λw=>Lib.run_indexByteString s 0 w;generalize Lib.indexByte s.data.toList 0=r at*;go_enter func175,ntmps175;go_wp2;go_ret;exact ⟨rfl,rfl⟩
def DZ (s:ByteArray):Bool:=decide (s.size<=30)&& !(s.data.toList.contains 0)
def Cv (ss:List ByteArray):Bool:=decide (ss.length<=8)&&ss.all DZ
def Ye (h:30<s.size):DZ s=false:=by simp [DZ];omega
def Yf (h:0<=Lib.indexByte s.data.toList 0):DZ s=false:=by
 have:=(MJ _ _).1 h;simp [DZ,List.contains_iff_mem,this]
def cx (h:s.size<=30) (h0:Lib.indexByte s.data.toList 0<0):DZ s=true:=by
 have:¬(0:UInt8)∈s.data.toList:=λm=>o1 ((MJ _ _).2 m);simp [DZ,h,this]
def Sw (hk:k<ss.length) (h:DZ (ss.getD k ByteArray.empty)=false):ss.all DZ=false:=by
 rw [List.all_eq_false];refine ⟨ss.getD k ByteArray.empty,?_,by rw [h];decide⟩;simp [List.getD,zz hk]
def Vb (hk:k<ss.length) (h:DZ (ss.getD k ByteArray.empty)=true) (ht:(ss.take k).all DZ=true):(ss.take (k+1)).all DZ=true:=by
 rw [List.take_succ_eq_append_getElem hk,List.all_append,ht];simp [List.getD,zz hk] at h;simp [h]
def N5 (ss:List ByteArray) (w:World) (hn:ss.length<=1000) (ha:0<ss.length->a=some (xK b off))
  (C:∀i,i<ss.length->w.cell? (xK b (off+i))=some (.string (ss.getD i ByteArray.empty))):
  cT 130 #[.slice a ss.length cap] w λe w'=>e= .returned (.bool (Cv ss))/\w'=w:=by
 by_cases h8:8<ss.length
 ·have hr:Cv ss=false:=by simp [Cv];omega
  rw [hr];clear hr C ha;go_enter func130,ntmps130;go_wp2;go_ret;exact ⟨rfl,rfl⟩
 ·have hr:Cv ss=ss.all DZ:=by simp [Cv];intro;omega
  rw [hr];have HC:=AC C;have HA:=AC ha;clear hr C ha;go_enter func130,ntmps130;go_wp2
  go_loop [10] (λi=>∃k:Nat,k<=ss.length/\i= iV k/\(ss.take k).all DZ=true) (λi=>ss.length-(intOf i).toNat)
  case atStart=>exact ⟨0,om,rfl,rfl⟩
  case round=>
   obtain ⟨k,hk,rfl,G⟩:=hrel;have D:=AC G;clear G;by_cases H:k<ss.length
   ·have I:=(AB HC) k H;have e:=(AB HA) om;subst e;obtain ⟨s,hs⟩:=xE (ss.getD k ByteArray.empty);rw [<-hs] at I;have HS:=AC hs;clear hs;by_cases hl:s.size<=30
    ·obtain ⟨r,hr⟩:=xE (Lib.indexByte s.data.toList 0);have HR:=AC hr;clear hr;by_cases h0:0<=r
     ·have F:=AC (Sw H (by rw [<-AB HS];exact Yf (by rw [<-AB HR];exact h0)))
      go_wp2_with (go_at_call 175;refine (Sv _ _).mono ?_;rw [<-AB HR];rintro e w' ⟨rfl,rfl⟩)
      go_ret;exact ⟨by rw [AB F];rfl,rfl⟩
     ·have F:=AC (Vb H (by rw [<-AB HS];exact cx hl (by rw [<-AB HR];omega)) (AB D))
      go_wp2_with (go_at_call 175;refine (Sv _ _).mono ?_;rw [<-AB HR];rintro e w' ⟨rfl,rfl⟩)
      go_round
      case rel=>exact ⟨k+1,om,by go_num,AB F⟩
      case measure=>simp [intOf];omega
    ·have F:=AC (Sw H (by rw [<-AB HS];exact Ye om))
     go_wp2_with fail
     go_ret;exact ⟨by rw [AB F];rfl,rfl⟩
   ·have F:=AC (show ss.all DZ=true by have:=AB D;rwa [xx om] at this);go_wp2;go_ret;exact ⟨by rw [AB F];rfl,rfl⟩
def Gn (s:ByteArray):List Int:=s.data.toList.map λc=>(c.toNat:Int)
def Jh (s:ByteArray):(Gn s).length=s.size:=by simp [Gn]
def Bu:List ByteArray->Nat
 |[]=>0
 |s::r=>s.size+1+Bu r
def MK:List Int:=List.replicate 512 0
def PH:MK.length=512:=tz
def room:List ByteArray->List Int
 |[]=>MK
 |s::r=>splice (room r) (512-Bu (s::r)) (Gn s)
def Es:List ByteArray->List Int
 |[]=>[]
 |s::r=>((65024+(512-Bu (s::r)):Nat):Int)::Es r
def Da:∀ss,(Es ss).length=ss.length
 |[]=>rfl
 |s::r=>by simp [Es,Da r]
def Db:∀ss,Bu ss<=512->(room ss).length=512
 |[],_=>PH
 |s::r,h=>by
  unfold room;have h':Bu r<=512:=by unfold Bu at h;omega
  rw [BJ _ _ _ (by rw [Db r h',Jh];unfold Bu at h ⊢;omega),Db r h']
def gv (h:ss.all DZ=true):Bu ss<=31*ss.length:=by
 induction ss with
 |nil=>simp [Bu]
 |cons s r ih=>
  simp only [List.all_cons,ug] at h;have h1:=h.1;simp [DZ] at h1;have:=ih h.2;simp only [Bu,um];omega
def gw (h:ss.all DZ=true) (k:Nat):(ss.drop k).all DZ=true:=by
 rw [za] at h ⊢;exact λx hx=>h x (rq hx)
def LT (h:Cv ss=true):ss.length<=8/\ss.all DZ=true:=by
 simpa [Cv] using h
def DG (h:Cv ss=true) (k:Nat):Bu (ss.drop k)<=248:=by
 have h1:=LT h;have:=gv (gw h1.2 k);simp at this;omega
def Kb (h:k<ss.length):ss.drop k=ss.getD k ByteArray.empty::ss.drop (k+1):=by
 rw [un h];simp [List.getD,zz h]
def UC (h:Cv ss=true) (hk:k<ss.length):(ss.getD k ByteArray.empty).size<=30:=by
 have h1:=(za.1 (LT h).2) (ss.getD k ByteArray.empty) (by simp [List.getD,zz hk]);simp [DZ] at h1;exact h1.1
def Dc (ss:List ByteArray):Nat:=(512-Bu ss-8*(ss.length+2))/16*16
def Et (ss:List ByteArray):List Int:=((ss.length:Nat):Int)::(Es ss++[0])
def E6 (ss:List ByteArray):(Et ss).length=ss.length+2:=by simp [Et,Da]
def AS (ss:List ByteArray):List Int:=splice (room ss) (Dc ss) (Cg (Et ss))
def E7 (ss:List ByteArray) (k:Nat):List Int:=((ss.length:Nat):Int)::(List.replicate k 0++Es (ss.drop k)++[0])
def Px (ss:List ByteArray) (k:Nat) (h:k<=ss.length):(E7 ss k).length=ss.length+2:=by
 simp [E7,Da];omega
def UD (ss:List ByteArray):E7 ss 0=Et ss:=by simp [E7,Et]
def UE (ss:List ByteArray) (k:Nat) (h:k<ss.length):
  (E7 ss (k+1)).set (k+1) ((65024+(512-Bu (ss.drop k)):Nat):Int)=E7 ss k:=by
 unfold E7;rw [zi];congr 1;rw [Kb h,Es];rw [List.replicate_succ',xu,xu,xu];rw [ul _ _ sI];simp
def Bh {op:Oper} {a:Act} {w:World} (D:op.guard=none) (ty:TypeId) (ho:op.op= .alloc ty)
  (vs:Array Value) (C:∀F w,(Instr.alloc ty true F).run P w= .ok (qP w.heap.size 0) (w.alloc (.cells vs ty)))
  (h:wpList P ops Q rest (a.put op.dst (qP w.heap.size 0)) (w.alloc (.cells vs ty))):wpList P ops Q (op::rest) a w:=
 wpList_plain D λ_ hK=>by
  unfold Oper.wp execOp;simp only [ho];simp [C,Result.andThen];exact hK _ _ h
def ML:Array Value:=(AF MK).toArray
def Vc (C:Value) (w:World):(Instr.alloc 277 true C).run prog w= .ok (qP w.heap.size 0) (w.alloc (.cells ML 277)):=kf
def Av (num perm:Int) (bytes:List Int):List Value:= iV num:: .int .u8 perm::AF bytes
def An:List Int:=List.replicate 256 0
def AT:An.length=256:=tz
def cy:Array Value:=(Av 0 0 An++Av 0 0 An).toArray
def cz:(Instr.makeSlice 158 (iV 2) (iV 2)).run prog w= .ok (sL w.heap.size 0 2 2) (w.alloc (.cells cy 164)):=kf
def Eu (n:Int) (h0:0<=n) (h1:n<1000000):IntKind.i64.wrap n=n:=by
 simp [IntKind.wrap,IntKind.bits,IntKind.signed];split<;>omega
def lN:(prog.info? 73).map (λi=>(i.zero,i.size,i.bytes))=some (some (uV 0),1,8):=kf
def LU:(prog.info? 5).map (·.size)=some 1:=kf
def F7 (n:Nat):Array Value:=(Dt (List.replicate n 0)).toArray
def dA:madeCells #[uV 0] n=F7 n:=by
 unfold madeCells F7 Dt;apply Array.ext
 ·simp
 ·intro i h1 h2;simp [Nat.mod_one]
def SC (j:Nat) (h:j<n):(F7 n)[j]? =some (uV 0):=by
 simp [F7,Dt,h]
def Py:(F7 (n+1)).setIfInBounds 0 (uV x)=(Dt (x::List.replicate n 0)).toArray:=by
 apply Array.ext';simp [F7,Dt,ri]
def Sy (h:k<ss.length):room (ss.drop k)=splice (room (ss.drop (k+1))) (512-Bu (ss.drop k)) (Gn (ss.getD k ByteArray.empty)):=by
 rw [Kb h,room]
def Pz (h:k<ss.length):Bu (ss.drop k)=(ss.getD k ByteArray.empty).size+1+Bu (ss.drop (k+1)):=by
 rw [Kb h,Bu]
def Ji (s:ByteArray):Lib.byteCells s.data.toList=AF (Gn s):=by
 simp [Lib.byteCells,AF,Gn]
def Cb (R:List Int):Nat->List Value
 |0=>Av 0 0 An++Av 0 0 An
 |1=>Av 254 6 (R.take 256)++Av 0 0 An
 |_=>Av 254 6 (R.take 256)++Av 255 6 (R.drop 256)
def Ci (a b:Int) (L:List Int):(Av a b L).length=L.length+2:=by simp [Av,AG]
def N6 (D Z C xs:List Value) (a b x y:Value) (hz:Z.length=xs.length):
  splice (((D++(a::b::(Z++C))).set D.length x).set (D.length+1) y) (D.length+2) xs=D++(x::y::(xs++C)):=by
 have e1:(D++(a::b::(Z++C))).set D.length x=D++(x::b::(Z++C)):=by
  rw [ul _ _ (zx _)];simp
 have e2:(D++(x::b::(Z++C))).set (D.length+1) y=D++(x::y::(Z++C)):=by
  rw [ul _ _ om];simp
 rw [e1,e2];unfold splice
 have e3:(D++(x::y::(Z++C))).take (D.length+2)=D++[x,y]:=by
  rw [List.take_append,xx om];simp
 have e4:(D++(x::y::(Z++C))).drop (D.length+2+xs.length)=C:=by
  rw [rm,qw om,show D.length+2+xs.length-D.length=xs.length+2 from om];simp [<-hz]
 rw [e3,e4];simp
def Vd (hR:R.length=512):
  splice (((Cb R 0).set 0 (iV 254)).set 1 (.int .u8 6)) 2 (AF (R.take 256))=Cb R 1:=by
 have:=N6 [] (AF An) (Av 0 0 An) (AF (R.take 256)) (iV 0) (.int .u8 0) (iV 254) (.int .u8 6) (by rw [AG,AG,AT];simp [hR]);simpa [Cb,Av] using this
def Ve (hR:R.length=512):
  splice (((Cb R 1).set 258 (iV 255)).set 259 (.int .u8 6)) 260 (AF (R.drop 256))=Cb R 2:=by
 have hl:(Av 254 6 (R.take 256)).length=258:=by rw [Ci];simp [hR]
 have:=N6 (Av 254 6 (R.take 256)) (AF An) [] (AF (R.drop 256)) (iV 0) (.int .u8 0) (iV 255) (.int .u8 6) (by rw [AG,AG,AT];simp [hR]);rw [hl] at this;simpa [Cb,Av] using this
def Jj (hR:R.length=512) (k:Nat):(Cb R k).length=516:=by
 match k with
 |0=>simp only [Cb,zm,Ci,AT]
 |1=>simp only [Cb,zm,Ci,AT,yr,hR];rfl
 |(k+2)=>simp only [Cb,zm,Ci,yr,sx,hR];rfl
def Dd:∀v∈AF L,v.oneCell'=true:=by
 intro v hv;obtain ⟨x,_,rfl⟩:=yt.1 hv;rfl
def CE (h:Cv ss=true):(AS ss).length=512:=by
 have ht:Bu ss<=248:=by have:=DG h 0;simpa using this
 have h8:=(LT h).1;have hl:=Db ss om;rw [AS,BJ _ _ _ (by rw [FO,E6,hl,Dc];omega),hl]
def ox {R:List Int} (h:Hid (AE W g 277 (AF R))):∀j v,(AF (R.take 256))[j]? =some v->W.drew.cell? (xK g (0+j))=some v:=by
 intro j v hv;refine (h.heap (W':=W.drew) rfl).cell ?_;simp only [AF,List.map_take,xq,zq] at hv ⊢;split at hv
 ·exact hv
 ·cases hv
def oy {R:List Int} (h:Hid (AE W g 277 (AF R))):∀j v,(AF (R.drop 256))[j]? =some v->W.drew.cell? (xK g (256+j))=some v:=by
 intro j v hv;refine (h.heap (W':=W.drew) rfl).cell ?_;simpa only [AF,List.map_drop,List.getElem?_drop] using hv
section
variable (w:World)
def Jk:∀(xs ys:List Int),xs.length=ys.length->((List.range xs.length).all λi=>xs.getD i 0==ys.getD i 0)=(xs==ys)
 |[],[],_=>rfl
 |x::xs,y::ys,h=>by
  have ih:=Jk xs ys (sU h);rw [um,List.range_succ_eq_map,List.all_cons,List.all_map];simp only [List.getD_cons_zero,Function.comp_def,List.getD_cons_succ,ih]
  simp [List.cons_beq_cons]
 |[],_::_,h=>by simp at h
 |_::_,[],h=>by simp at h
def Ie (d:Nat) (t e:TypeId) (n:Nat) (k:IntKind) (ht:P.underlying t=some (.array n e)) (he:P.underlying e=some (.int k)) (C:∀w,(sizeOf e).run P w= .ok 1 w)
  (xs ys:List Int) (hx:xs.length=n) (hy:ys.length=n):
  (Op.equalIn (d+2) t (.agg (xs.map (Value.int k)).toArray) (.agg (ys.map (Value.int k)).toArray)).run P w= .ok (xs==ys) w:=by
 rw [<-Jk xs ys (hx.trans hy.symm),hx,List.range_eq_range',Op.equalIn];simp only [uk,ue ht,ye,C,Std.Legacy.Range.forIn_eq_forIn_range',Std.Legacy.Range.size,Nat.sub_zero,Nat.add_sub_cancel,Nat.div_one];have hl:∀i∈List.range' 0 n 1,i<n:=λi hi=>by simpa using (List.mem_range'_1.1 hi).2
 generalize List.range' 0 n 1=l at hl ⊢
 induction l with
 |nil=>simp
 |cons i l ih=>
  have hi:i<n:=hl i sI
  have px:(part e (xs.map (Value.int k)).toArray (i*1)).run P w= .ok (.int k (xs.getD i 0)) w:=by
   simp [part,isAgg,ue he,List.getD,zz (show i<xs.length by omega)]
  have py:(part e (ys.map (Value.int k)).toArray (i*1)).run P w= .ok (.int k (ys.getD i 0)) w:=by
   simp [part,isAgg,ue he,List.getD,zz (show i<ys.length by omega)]
  have pe:(Op.equalIn (d+1) e (.int k (xs.getD i 0)) (.int k (ys.getD i 0))).run P w= .ok (xs.getD i 0==ys.getD i 0) w:=run_equalIn_int w d e k k _ _ he;simp only [List.forIn_cons,uk,px,py,pe,ye,List.all_cons];cases hb:(xs.getD i 0==ys.getD i 0)
  ·simp
  ·simp only [Bool.not_true,Bool.false_eq_true,if_false,sr,ye,Bool.true_and];exact ih λj hj=>hl j (by simp [hj])
end
def MM {C:World->Prop} {Q:Act->Prop} {a:Act} (hw:Region.wanted o (yielded ops a.tmps)=true) (ty:TypeId) (x:Operand) (ho:o.op= .load ty x)
  (b off:Nat) (hx:a.eval x= qP b off) (cs:List Value) (d:TypeDesc) (hc:∀w,C w->w.rangeAt b off cs) (hu:P.underlying ty=some d) (hd:d.isRow=true) (hi:(P.info? ty).map (·.size)=some cs.length)
  (h:wpQuiet P ops C Q rest (a.put o.dst (.agg cs.toArray))):wpQuiet P ops C Q (o::rest) a:=by
 unfold wpQuiet;rw [vu hw];refine ⟨.agg cs.toArray,λw hC=> ?_,h⟩;unfold Oper.quietAt execOp;simp only [ho,hx,Instr.loadAt,Instr.sureAddr,uk,sr,ye,run_loadVar_mid w b off ty cs d (hc w hC) hu hd hi];exact ⟨rfl,rfl⟩
def N7 {w:World} {b o:Nat} {cs:List Value} (h:w.rangeAt b o cs):∀w',(∃n,w'=w.drewN n)->w'.rangeAt b o cs:=by
 rintro w' ⟨n,rfl⟩ j v hv;rw [World.cell?_drewN];exact h j v hv
def dB (n:Int) (h0:0<=n) (h1:n<=255):IntKind.i64.wrap n=n:=by
 simp [IntKind.wrap,IntKind.bits,IntKind.signed];split<;>omega
def P2:(prog.info? 134).map (·.size)=some 256:=kf
def oz (h:L.length=256) (w:World):(Op.equalIn 10000 134 (.agg (AF L).toArray) (.agg (AF L).toArray)).run prog w= .ok true w:=by
 have:=Ie (P:=prog) w 9998 134 5 256 .u8 underlying134 underlying5 (λ_=>kf) L L h h;simpa [AF] using this
structure Pg where
 num:Int
 perm:Int
 bytes:List Int
def If (w:World) (g:Nat) (PS:List Pg):Prop:=∀i p,PS[i]? =some p->w.cell? (xK g (i*258))=some (iV p.num)/\w.cell? (xK g (i*258+1))=some (.int .u8 p.perm)/\w.rangeAt g (i*258+2) (AF p.bytes)
def Bs (w:World) (g:Nat) (PS:List Pg):Prop:=∀i p,PS[i]? =some p->w.cell? (xK g (i*258))=some (iV p.num)/\w.cell? (xK g (i*258+1))=some (iV p.perm)/\w.rangeAt g (i*258+2) (AF p.bytes)
def SD (gb ca cb:Nat) (PS:List Pg) (w:World) (ha:0<PS.length->aa=some (xK ga 0)) (hb:0<PS.length->ab=some (xK gb 0))
  (hA:If w ga PS) (hB:Bs w gb PS) (hp:∀p∈PS,0<=p.perm/\p.perm<=255/\p.bytes.length=256) (hn:PS.length<=100000):
  cT 113 #[.slice aa PS.length ca,.slice ab PS.length cb] w λe w'=>e= .returned (.bool true)/\w'.heap=w.heap/\Bw w w':=by
 obtain ⟨HA,HB,HP,Z,a0⟩:=H5 hA hB hp ha hb;clear hA hB hp ha hb;go_enter func113,ntmps113;go_wp2
 go_loopw [5] (λi wr=>∃k:Nat,k<=PS.length/\i= iV k/\wr.heap=w.heap/\Bw w wr) (λi _=>PS.length-(intOf i).toNat)
 case atStart=>exact ⟨0,om,rfl,rfl,zw _ _⟩
 case round=>
  obtain ⟨k,hk,rfl,hh,T⟩:=hrel;have HH:=AC hh;have F:=AC T;clear hh T;by_cases X:k<PS.length
  ·have e1:=(AB Z) om;have e2:=(AB a0) om;subst e1 e2;obtain ⟨p,H⟩:∃p,PS[k]? =some p:=⟨_,zz X⟩;have C:∀a,wr.cell? a=w.cell? a:=λa=>by unfold World.cell?;rw [AB HH]
   have U:=(AB HP) p (zv H);obtain ⟨a1,a2,a3⟩:=(AB HA) k p H;obtain ⟨b1,b2,b3⟩:=(AB HB) k p H;obtain ⟨a9,N,D⟩:=p;simp only at a1 a2 a3 b1 b2 b3 U;rw [<-C] at a1 a2 b1 b2;have J:wr.rangeAt ga (k*258+2) (AF D):=λj v hv=>by rw [C];exact a3 j v hv
   have O:wr.rangeAt gb (k*258+2) (AF D):=λj v hv=>by rw [C];exact b3 j v hv
   obtain ⟨p0,p1,p2⟩:=U;have hq:=oz D p2;have hu:=underlying134;obtain ⟨cs,I⟩:=xE (AF D);have hl:cs.length=256:=by rw [I,AG,p2]
   have hi:(prog.info? 134).map (·.size)=some cs.length:=by rw [P2,hl]
   obtain ⟨ds,G⟩:=xE (AF D);have a4:ds.length=256:=by rw [G,AG,p2]
   have a6:(prog.info? 134).map (·.size)=some ds.length:=by rw [P2,a4]
   have hq:∀w,(Op.equalIn 10000 134 (.agg cs.toArray) (.agg ds.toArray)).run prog w= .ok true w:=by rw [I,G];exact hq
   rw [<-I] at J;rw [<-G] at O;have b0:=dB N p0 p1;have a8:(0:Int)<=(k:Int):=om;have a7:(k:Int)<(PS.length:Int):=om;clear I G a3 b3 C H p2
   go_wp2_with fail
   have a5:=AC J;have Y:=AC O;clear J O;refine wp_region_quiet_lit kf kf ?_
   repeat (first|(refine MM (by rfl) 134 _ rfl ga (k*258+2) (by rfl) cs _ (N7 (AB a5)) hu rfl hi ?_;simp only [Act.put,zl,zi,zh])|(refine MM (by rfl) 134 _ rfl gb (k*258+2) (by rfl) ds _ (N7 (AB Y)) hu rfl a6 ?_;simp only [Act.put,zl,zi,zh])|go_big_quiet_step (fail))
   refine wpQuiet_nil ?_;intro _ V;obtain ⟨nq,M⟩:=V;subst M;go_wp2
   go_roundw
   case rel=>exact ⟨k+1,om,by go_num,AB HH,⟨F.os,F.tape,F.output,F.size,F.block⟩⟩
   case measure=>simp [intOf];omega
  ·go_wp2;go_ret;exact ⟨rfl,AB HH,AB F⟩
def Dj {p:Prop} (h:¬p):(false=true↔p):=⟨λe=>(Bool.false_ne_true e).elim,λq=>(h q).elim⟩
def I7 (B:List Int):Prop:=((strOfNums (B.take 7)).toList==[127,69,76,70,2,1,1])=true
def CO (B:List Int):Prop:=64<=B.length/\I7 B/\AO B 16 2=2/\AO B 18 2=243/\AO B 20 4=1/\AO B 32 8=64/\AO B 52 2=64/\AO B 54 2=56/\1<=AO B 56 2/\AO B 56 2<=8/\64+56*AO B 56 2<=(B.length:Int)
def nD (hv:Am w b off B) (h:7<=B.length):(convert 36 9 (sL b off 7 cap)).run prog w= .ok (.string (strOfNums (B.take 7))) w:=
 run_convert_bytes_arg w 36 5 underlying36 underlying5 b off 7 cap (B.take 7) sO (λi hi=>by
  rw [hv i om]
  simp [List.getD,xq,hi]) 9 underlying9
def SF (hB:AK B) (O:B.length<=cap) (U:B.length<=1000000) (hv:Am w b off B):
  cT 135 #[sL b off B.length cap] w λe w'=>∃n:Int,∃ok:Bool,e= .returned (.tuple #[iV n,.bool ok])/\w'=w/\(ok=true↔CO B)/\(CO B->n=AO B 56 2):=by
 by_cases I:64<=B.length
 case neg=>
  have F:¬CO B:=λh=>I h.1;have HN:=AC F;clear hv hB F;go_enter func135,ntmps135;go_wp2
  go_ret2
  exact ⟨0,false,rfl,rfl,Dj HN,λh=>absurd h HN⟩
 have H:=nD b off cap B w hv om;obtain ⟨s7,G⟩:=xE (strOfNums (B.take 7));rw [<-G] at H;have h7:(7:Int)<=(cap:Int):=om;have a5:¬cap=0:=om;by_cases hm:(s7.toList==[127,69,76,70,2,1,1])=true
 case neg=>
  have a3:(s7.toList==[127,69,76,70,2,1,1])=false:=sU hm;have F:¬CO B:=λh=>hm (by rw [G];exact h.2.1);have HN:=AC F;have HM:=AC hm;clear hv hB F hm G;go_enter func135,ntmps135;go_wp2
  go_ret2
  exact ⟨0,false,rfl,rfl,Dj HN,λh=>absurd h HN⟩
 have HM:=AC hm;have J:=AC G;have HV:=AC hv;have C:=AC hB;have V:(!s7.toList==[127,69,76,70,2,1,1])=false:=by rw [hm];rfl
 have a1:¬cap=16:=om;have M:¬cap=18:=om;have T:¬cap=20:=om;have a0:¬cap=32:=om;have X:¬cap=52:=om;have Z:¬cap=54:=om;have N:¬cap=56:=om;have a2:(64:Int)<=(cap:Int):=om;clear hm G hv hB;go_enter func135,ntmps135
 go_wp2_with fail
 refine (BW b (off+16) 2 (cap-16) B 16 _ (AB C) om (λj hj=>by rw [sd];exact (AB HV) (16+j) om)).mono ?_;rintro e w1 ⟨rfl,D⟩;subst D
 go_wp2_with fail
 refine (BW b (off+18) 2 (cap-18) B 18 _ (AB C) om (λj hj=>by rw [sd];exact (AB HV) (18+j) om)).mono ?_;rintro e w1 ⟨rfl,D⟩;subst D
 go_wp2_with fail
 refine (BW b (off+20) 4 (cap-20) B 20 _ (AB C) om (λj hj=>by rw [sd];exact (AB HV) (20+j) om)).mono ?_;rintro e w1 ⟨rfl,D⟩;subst D
 go_wp2_with fail
 refine (BW b (off+32) 8 (cap-32) B 32 _ (AB C) om (λj hj=>by rw [sd];exact (AB HV) (32+j) om)).mono ?_;rintro e w1 ⟨rfl,D⟩;subst D
 go_wp2_with fail
 refine (BW b (off+52) 2 (cap-52) B 52 _ (AB C) om (λj hj=>by rw [sd];exact (AB HV) (52+j) om)).mono ?_;rintro e w1 ⟨rfl,D⟩;subst D
 go_wp2_with fail
 refine (BW b (off+54) 2 (cap-54) B 54 _ (AB C) om (λj hj=>by rw [sd];exact (AB HV) (54+j) om)).mono ?_;rintro e w1 ⟨rfl,D⟩;subst D
 go_wp2_with fail
 refine (BW b (off+56) 2 (cap-56) B 56 _ (AB C) om (λj hj=>by rw [sd];exact (AB HV) (56+j) om)).mono ?_;rintro e w1 ⟨rfl,D⟩;subst D;have b0:=BP C 16 2 om;have b1:=BP C 18 2 om;have b2:=BP C 20 4 om;have b3:=BP C 32 8 om;have b4:=BP C 52 2 om;have b5:=BP C 54 2 om;have b6:=BP C 56 2 om;generalize hx0:AO B 16 2=x0 at b0 ⊢;generalize hx1:AO B 18 2=x1 at b1 ⊢;generalize hx2:AO B 20 4=x2 at b2 ⊢;generalize hx3:AO B 32 8=x3 at b3 ⊢;generalize hx4:AO B 52 2=x4 at b4 ⊢;generalize hx5:AO B 54 2=x5 at b5 ⊢;generalize hx6:AO B 56 2=x6 at b6 ⊢;have HX:=AC (xi hx0 (xi hx1 (xi hx2 (xi hx3 (xi hx4 (xi hx5 hx6))))));clear hx0 hx1 hx2 hx3 hx4 hx5 hx6
 have HH:Hid (CO B↔(x0=2/\x1=243/\x2=1/\x3=64/\x4=64/\x5=56/\1<=x6/\x6<=8/\64+56*x6<=(B.length:Int))):=AC (by
  obtain ⟨r0,r1,r2,r3,r4,r5,r6⟩:=AB HX;unfold CO;rw [r0,r1,r2,r3,r4,r5,r6];have Y:I7 B:=by unfold I7;rw [<-AB J];exact AB HM
  constructor
  ·rintro ⟨_,_,h⟩;exact h
  ·intro h;exact ⟨I,Y,h⟩)
 have H6:Hid (AO B 56 2=x6):=AC HX.2.2.2.2.2.2;obtain ⟨a4,_⟩:=b6;clear b0 b1 b2 b3 b4 b5 HX HM J C H HV V;by_cases t0:x0=2
 case neg=>
  have f0:(x0 !=2)=true:=sU t0;have HN:=AC (λh:CO B=>t0 (HH.1 h).1);clear t0;go_wp2
  go_ret2
  exact ⟨0,false,rfl,rfl,Dj HN,λh=>absurd h HN⟩
 have f0:(x0 !=2)=false:=sU t0;have T0:=AC t0;clear t0;by_cases t1:x1=243
 case neg=>
  have f1:(x1 !=243)=true:=sU t1;have HN:=AC (λh:CO B=>t1 (HH.1 h).2.1);clear t1;go_wp2
  go_ret2
  exact ⟨0,false,rfl,rfl,Dj HN,λh=>absurd h HN⟩
 have f1:(x1 !=243)=false:=sU t1;have T1:=AC t1;clear t1;by_cases t2:x2=1
 case neg=>
  have f2:(x2 !=1)=true:=sU t2;have HN:=AC (λh:CO B=>t2 (HH.1 h).2.2.1);clear t2;go_wp2
  go_ret2
  exact ⟨0,false,rfl,rfl,Dj HN,λh=>absurd h HN⟩
 have f2:(x2 !=1)=false:=sU t2;have T2:=AC t2;clear t2;by_cases t3:x3=64
 case neg=>
  have f3:(x3 !=64)=true:=sU t3;have HN:=AC (λh:CO B=>t3 (HH.1 h).2.2.2.1);clear t3;go_wp2
  go_ret2
  exact ⟨0,false,rfl,rfl,Dj HN,λh=>absurd h HN⟩
 have f3:(x3 !=64)=false:=sU t3;have T3:=AC t3;clear t3;by_cases t4:x4=64
 case neg=>
  have f4:(x4 !=64)=true:=sU t4;have HN:=AC (λh:CO B=>t4 (HH.1 h).2.2.2.2.1);clear t4;go_wp2
  go_ret2
  exact ⟨0,false,rfl,rfl,Dj HN,λh=>absurd h HN⟩
 have f4:(x4 !=64)=false:=sU t4;have T4:=AC t4;clear t4;by_cases t5:x5=56
 case neg=>
  have f5:(x5 !=56)=true:=sU t5;have HN:=AC (λh:CO B=>t5 (HH.1 h).2.2.2.2.2.1);clear t5;go_wp2
  go_ret2
  exact ⟨0,false,rfl,rfl,Dj HN,λh=>absurd h HN⟩
 have f5:(x5 !=56)=false:=sU t5;have T5:=AC t5;clear t5;by_cases t6:1<=x6
 case neg=>
  have HN:=AC (λh:CO B=>t6 (HH.1 h).2.2.2.2.2.2.1);go_wp2
  go_ret2
  exact ⟨0,false,rfl,rfl,Dj HN,λh=>absurd h HN⟩
 by_cases t7:x6<=8
 case neg=>
  have HN:=AC (λh:CO B=>t7 (HH.1 h).2.2.2.2.2.2.2.1);go_wp2
  go_ret2
  exact ⟨0,false,rfl,rfl,Dj HN,λh=>absurd h HN⟩
 go_wp2
 go_ret2
 refine ⟨x6,decide (64+56*x6<=(B.length:Int)),rfl,rfl,?_,λ_=>H6.symm⟩;rw [decide_eq_true_iff,AB HH];exact ⟨λh=>⟨AB T0,AB T1,AB T2,AB T3,AB T4,AB T5,t6,t7,h⟩,λh=>h.2.2.2.2.2.2.2.2⟩
def DK:List Value:=[iV 16,iV 2,uV 2,iV 18,iV 2,uV 243,iV 20,iV 4,uV 1,iV 32,iV 8,uV 64,iV 52,iV 2,uV 64,iV 54,iV 2,uV 56]
def lP:(prog.info? 324).map (·.size)=some DK.length:=kf
def nP:(Instr.index 324 (.agg DK.toArray) (iV 0)).run prog w= .ok (.agg #[iV 16,iV 2,uV 2]) w:=kf
def nQ:(Instr.index 324 (.agg DK.toArray) (iV 1)).run prog w= .ok (.agg #[iV 18,iV 2,uV 243]) w:=kf
def nR:(Instr.index 324 (.agg DK.toArray) (iV 2)).run prog w= .ok (.agg #[iV 20,iV 4,uV 1]) w:=kf
def nS:(Instr.index 324 (.agg DK.toArray) (iV 3)).run prog w= .ok (.agg #[iV 32,iV 8,uV 64]) w:=kf
def nT:(Instr.index 324 (.agg DK.toArray) (iV 4)).run prog w= .ok (.agg #[iV 52,iV 2,uV 64]) w:=kf
def nU:(Instr.index 324 (.agg DK.toArray) (iV 5)).run prog w= .ok (.agg #[iV 54,iV 2,uV 56]) w:=kf
def fOk (B:List Int):Nat->Prop
 |0=>True
 |1=>AO B 16 2=2
 |2=>AO B 16 2=2/\AO B 18 2=243
 |3=>AO B 16 2=2/\AO B 18 2=243/\AO B 20 4=1
 |4=>AO B 16 2=2/\AO B 18 2=243/\AO B 20 4=1/\AO B 32 8=64
 |5=>AO B 16 2=2/\AO B 18 2=243/\AO B 20 4=1/\AO B 32 8=64/\AO B 52 2=64
 |6=>AO B 16 2=2/\AO B 18 2=243/\AO B 20 4=1/\AO B 32 8=64/\AO B 52 2=64/\AO B 54 2=56
 |_=>False
def lQ (B:List Int) (w:World) (e:Ending) (w':World):Prop:=∃n:Int,∃ok:Bool,e= .returned (.tuple #[iV n,.bool ok])/\Bw w w'/\(ok=true↔CO B)/\(CO B->n=AO B 56 2)
def P5 (hB:AK B) (J:B.length<=cap) (N:B.length<=1000000) (hv:Am w b off B) (T:b<w.heap.size) (ht:w.rangeAt 1 0 DK) (a7:1<w.heap.size):
  cT 121 #[sL b off B.length cap] w λe w'=>lQ B w e w':=by
 by_cases a1:64<=B.length
 case neg=>
  have F:¬CO B:=λh=>a1 h.1;have HN:=AC F;clear hv hB F ht;go_enter func121,ntmps121;go_wp2
  go_ret2
  exact ⟨0,false,rfl,zw _ _,Dj HN,λh=>absurd h HN⟩
 have a4:=nD b off cap B w hv om;obtain ⟨s7,X⟩:=xE (strOfNums (B.take 7));rw [<-X] at a4;have h7:(7:Int)<=(cap:Int):=om;have a5:¬cap=0:=om;obtain ⟨HT,HV,M⟩:=H3 ht hv hB;clear ht hv hB;by_cases hm:(s7.toList==[127,69,76,70,2,1,1])=true
 case neg=>
  have a6:(s7.toList==[127,69,76,70,2,1,1])=false:=sU hm;have F:¬CO B:=λh=>hm (by rw [X];exact h.2.1);have HN:=AC F;clear F hm X;go_enter func121,ntmps121;go_wp2
  go_ret2
  exact ⟨0,false,rfl,zw _ _,Dj HN,λh=>absurd h HN⟩
 have a8:(!s7.toList==[127,69,76,70,2,1,1])=false:=by rw [hm];rfl
 have a0:I7 B:=by unfold I7;rw [<-X];exact hm
 have a2:=AC a0;clear hm X a0;go_enter func121,ntmps121
 go_wp2_with (refine te rfl 324 _ rfl 1 0 (by rfl) DK _ HT underlying324 rfl lP ?_)
 go_loopw [17] (λi wr=>∃k:Nat,k<=6/\i= iV k/\fOk B k/\Bw w wr) (λi _=>6-(intOf i).toNat)
 case atStart=>exact ⟨0,om,rfl,trivial,zw _ _⟩
 case round=>
  obtain ⟨k,hk,rfl,hf,Y⟩:=hrel;have HF:=AC hf;have I:=AC Y;clear hf Y;have a3:k=0\/k=1\/k=2\/k=3\/k=4\/k=5\/k=6:=om;rcases a3 with rfl|rfl|rfl|rfl|rfl|rfl|rfl
  ·rw [show ((0:Nat):Int)=(0:Int) from rfl];have ti:=nP;have C:=AC (I.alloc I.size (.cells #[iV 16,iV 2,uV 2] 323));have H:=BP M 16 2 om;obtain ⟨x,hx⟩:=xE (AO B 16 2)
   have G:Hid (∀m,cT 127 #[sL b off B.length cap,iV 16,iV 2] ((wr.alloc (.cells #[iV 16,iV 2,uV 2] 323)).drewN m) λe w'=>e= .returned (uV x)/\w'=(wr.alloc (.cells #[iV 16,iV 2,uV 2] 323)).drewN m):=AC (λm=>by
    rw [hx]
    exact Ch b off cap B 16 2 _ (AB M) om om om J N (λj hj=>by rw [World.cell?_drewN];exact (HV.below (AB C) T) j hj))
   have HX:=AC hx;clear hx;by_cases D:x=2
   ·have f:(x !=2)=false:=sU D;have O:Hid (AO B 16 2=2):=AC (by rw [<-AB HX];exact D);clear D H
    go_wp2_with fail
    go_quiet ((go_at_call 127;exact Calls.quiet_of_same (AB G _)))
    go_wp2
    go_roundw
    case rel=>exact ⟨1,om,rfl,AB O,⟨C.os,C.tape,C.output,C.size,C.block⟩⟩
    case measure=>simp [intOf]
   ·have f:(x !=2)=true:=sU D;have F:¬CO B:=λh=>D (by rw [AB HX];exact h.2.2.1);have HN:=AC F;clear D H F
    go_wp2_with fail
    go_quiet ((go_at_call 127;exact Calls.quiet_of_same (AB G _)))
    go_wp2
    go_ret2
    exact ⟨0,false,rfl,⟨C.os,C.tape,C.output,C.size,C.block⟩,Dj HN,λh=>absurd h HN⟩
  ·rw [show ((1:Nat):Int)=(1:Int) from rfl];have ti:=nQ;have C:=AC (I.alloc I.size (.cells #[iV 18,iV 2,uV 243] 323));have H:=BP M 18 2 om;obtain ⟨x,hx⟩:=xE (AO B 18 2)
   have G:Hid (∀m,cT 127 #[sL b off B.length cap,iV 18,iV 2] ((wr.alloc (.cells #[iV 18,iV 2,uV 243] 323)).drewN m) λe w'=>e= .returned (uV x)/\w'=(wr.alloc (.cells #[iV 18,iV 2,uV 243] 323)).drewN m):=AC (λm=>by
    rw [hx]
    exact Ch b off cap B 18 2 _ (AB M) om om om J N (λj hj=>by rw [World.cell?_drewN];exact (HV.below (AB C) T) j hj))
   have HX:=AC hx;clear hx;by_cases D:x=243
   ·have f:(x !=243)=false:=sU D;have O:Hid (AO B 18 2=243):=AC (by rw [<-AB HX];exact D);clear D H
    go_wp2_with fail
    go_quiet ((go_at_call 127;exact Calls.quiet_of_same (AB G _)))
    go_wp2
    go_roundw
    case rel=>exact ⟨2,om,rfl,⟨AB HF,AB O⟩,⟨C.os,C.tape,C.output,C.size,C.block⟩⟩
    case measure=>simp [intOf]
   ·have f:(x !=243)=true:=sU D;have F:¬CO B:=λh=>D (by rw [AB HX];exact h.2.2.2.1);have HN:=AC F;clear D H F
    go_wp2_with fail
    go_quiet ((go_at_call 127;exact Calls.quiet_of_same (AB G _)))
    go_wp2
    go_ret2
    exact ⟨0,false,rfl,⟨C.os,C.tape,C.output,C.size,C.block⟩,Dj HN,λh=>absurd h HN⟩
  ·rw [show ((2:Nat):Int)=(2:Int) from rfl];have ti:=nR;have C:=AC (I.alloc I.size (.cells #[iV 20,iV 4,uV 1] 323));have H:=BP M 20 4 om;obtain ⟨x,hx⟩:=xE (AO B 20 4)
   have G:Hid (∀m,cT 127 #[sL b off B.length cap,iV 20,iV 4] ((wr.alloc (.cells #[iV 20,iV 4,uV 1] 323)).drewN m) λe w'=>e= .returned (uV x)/\w'=(wr.alloc (.cells #[iV 20,iV 4,uV 1] 323)).drewN m):=AC (λm=>by
    rw [hx]
    exact Ch b off cap B 20 4 _ (AB M) om om om J N (λj hj=>by rw [World.cell?_drewN];exact (HV.below (AB C) T) j hj))
   have HX:=AC hx;clear hx;by_cases D:x=1
   ·have f:(x !=1)=false:=sU D;have O:Hid (AO B 20 4=1):=AC (by rw [<-AB HX];exact D);clear D H
    go_wp2_with fail
    go_quiet ((go_at_call 127;exact Calls.quiet_of_same (AB G _)))
    go_wp2
    go_roundw
    case rel=>exact ⟨3,om,rfl,⟨HF.1,HF.2,AB O⟩,⟨C.os,C.tape,C.output,C.size,C.block⟩⟩
    case measure=>simp [intOf]
   ·have f:(x !=1)=true:=sU D;have F:¬CO B:=λh=>D (by rw [AB HX];exact h.2.2.2.2.1);have HN:=AC F;clear D H F
    go_wp2_with fail
    go_quiet ((go_at_call 127;exact Calls.quiet_of_same (AB G _)))
    go_wp2
    go_ret2
    exact ⟨0,false,rfl,⟨C.os,C.tape,C.output,C.size,C.block⟩,Dj HN,λh=>absurd h HN⟩
  ·rw [show ((3:Nat):Int)=(3:Int) from rfl];have ti:=nS;have C:=AC (I.alloc I.size (.cells #[iV 32,iV 8,uV 64] 323));have H:=BP M 32 8 om;obtain ⟨x,hx⟩:=xE (AO B 32 8)
   have G:Hid (∀m,cT 127 #[sL b off B.length cap,iV 32,iV 8] ((wr.alloc (.cells #[iV 32,iV 8,uV 64] 323)).drewN m) λe w'=>e= .returned (uV x)/\w'=(wr.alloc (.cells #[iV 32,iV 8,uV 64] 323)).drewN m):=AC (λm=>by
    rw [hx]
    exact Ch b off cap B 32 8 _ (AB M) om om om J N (λj hj=>by rw [World.cell?_drewN];exact (HV.below (AB C) T) j hj))
   have HX:=AC hx;clear hx;by_cases D:x=64
   ·have f:(x !=64)=false:=sU D;have O:Hid (AO B 32 8=64):=AC (by rw [<-AB HX];exact D);clear D H
    go_wp2_with fail
    go_quiet ((go_at_call 127;exact Calls.quiet_of_same (AB G _)))
    go_wp2
    go_roundw
    case rel=>exact ⟨4,om,rfl,⟨HF.1,HF.2.1,HF.2.2,AB O⟩,⟨C.os,C.tape,C.output,C.size,C.block⟩⟩
    case measure=>simp [intOf]
   ·have f:(x !=64)=true:=sU D;have F:¬CO B:=λh=>D (by rw [AB HX];exact h.2.2.2.2.2.1);have HN:=AC F;clear D H F
    go_wp2_with fail
    go_quiet ((go_at_call 127;exact Calls.quiet_of_same (AB G _)))
    go_wp2
    go_ret2
    exact ⟨0,false,rfl,⟨C.os,C.tape,C.output,C.size,C.block⟩,Dj HN,λh=>absurd h HN⟩
  ·rw [show ((4:Nat):Int)=(4:Int) from rfl];have ti:=nT;have C:=AC (I.alloc I.size (.cells #[iV 52,iV 2,uV 64] 323));have H:=BP M 52 2 om;obtain ⟨x,hx⟩:=xE (AO B 52 2)
   have G:Hid (∀m,cT 127 #[sL b off B.length cap,iV 52,iV 2] ((wr.alloc (.cells #[iV 52,iV 2,uV 64] 323)).drewN m) λe w'=>e= .returned (uV x)/\w'=(wr.alloc (.cells #[iV 52,iV 2,uV 64] 323)).drewN m):=AC (λm=>by
    rw [hx]
    exact Ch b off cap B 52 2 _ (AB M) om om om J N (λj hj=>by rw [World.cell?_drewN];exact (HV.below (AB C) T) j hj))
   have HX:=AC hx;clear hx;by_cases D:x=64
   ·have f:(x !=64)=false:=sU D;have O:Hid (AO B 52 2=64):=AC (by rw [<-AB HX];exact D);clear D H
    go_wp2_with fail
    go_quiet ((go_at_call 127;exact Calls.quiet_of_same (AB G _)))
    go_wp2
    go_roundw
    case rel=>exact ⟨5,om,rfl,⟨HF.1,HF.2.1,HF.2.2.1,HF.2.2.2,AB O⟩,⟨C.os,C.tape,C.output,C.size,C.block⟩⟩
    case measure=>simp [intOf]
   ·have f:(x !=64)=true:=sU D;have F:¬CO B:=λh=>D (by rw [AB HX];exact h.2.2.2.2.2.2.1);have HN:=AC F;clear D H F
    go_wp2_with fail
    go_quiet ((go_at_call 127;exact Calls.quiet_of_same (AB G _)))
    go_wp2
    go_ret2
    exact ⟨0,false,rfl,⟨C.os,C.tape,C.output,C.size,C.block⟩,Dj HN,λh=>absurd h HN⟩
  ·rw [show ((5:Nat):Int)=(5:Int) from rfl];have ti:=nU;have C:=AC (I.alloc I.size (.cells #[iV 54,iV 2,uV 56] 323));have H:=BP M 54 2 om;obtain ⟨x,hx⟩:=xE (AO B 54 2)
   have G:Hid (∀m,cT 127 #[sL b off B.length cap,iV 54,iV 2] ((wr.alloc (.cells #[iV 54,iV 2,uV 56] 323)).drewN m) λe w'=>e= .returned (uV x)/\w'=(wr.alloc (.cells #[iV 54,iV 2,uV 56] 323)).drewN m):=AC (λm=>by
    rw [hx]
    exact Ch b off cap B 54 2 _ (AB M) om om om J N (λj hj=>by rw [World.cell?_drewN];exact (HV.below (AB C) T) j hj))
   have HX:=AC hx;clear hx;by_cases D:x=56
   ·have f:(x !=56)=false:=sU D;have O:Hid (AO B 54 2=56):=AC (by rw [<-AB HX];exact D);clear D H
    go_wp2_with fail
    go_quiet ((go_at_call 127;exact Calls.quiet_of_same (AB G _)))
    go_wp2
    go_roundw
    case rel=>exact ⟨6,om,rfl,⟨HF.1,HF.2.1,HF.2.2.1,HF.2.2.2.1,HF.2.2.2.2,AB O⟩,⟨C.os,C.tape,C.output,C.size,C.block⟩⟩
    case measure=>simp [intOf]
   ·have f:(x !=56)=true:=sU D;have F:¬CO B:=λh=>D (by rw [AB HX];exact h.2.2.2.2.2.2.2.1);have HN:=AC F;clear D H F
    go_wp2_with fail
    go_quiet ((go_at_call 127;exact Calls.quiet_of_same (AB G _)))
    go_wp2
    go_ret2
    exact ⟨0,false,rfl,⟨C.os,C.tape,C.output,C.size,C.block⟩,Dj HN,λh=>absurd h HN⟩
  ·rw [show ((6:Nat):Int)=(6:Int) from rfl];have H:=BP M 56 2 om;have V:=MG M 2 56;have Z:(256:Int)^2=65536:=dz;rw [Z] at V;obtain ⟨x,hx⟩:=xE (AO B 56 2);rw [<-hx] at V
   have G:Hid (cT 127 #[sL b off B.length cap,iV 56,iV 2] wr λe w'=>e= .returned (uV x)/\w'=wr):=AC (by
    rw [hx]
    exact Ch b off cap B 56 2 _ M om om om J N (HV.below I T))
   have HH:Hid (CO B↔(1<=x/\x<=8/\64+56*x<=(B.length:Int))):=AC (by
    obtain ⟨r0,r1,r2,r3,r4,r5⟩:=AB HF;unfold CO;rw [<-hx];constructor
    ·rintro ⟨_,_,_,_,_,_,_,_,h⟩;exact h
    ·intro h;exact ⟨a1,AB a2,r0,r1,r2,r3,r4,r5,h⟩)
   have HX:=AC hx;obtain ⟨b0,a9⟩:=V;clear hx H Z HF;by_cases t6:1<=x
   case neg=>
    have HN:=AC (λh:CO B=>t6 (HH.1 h).1)
    go_wp2_with fail
    refine G.mono ?_;rintro e w1 ⟨rfl,U⟩;subst U;go_wp2
    go_ret2
    exact ⟨0,false,rfl,AB I,Dj HN,λh=>absurd h HN⟩
   by_cases t7:x<=8
   case neg=>
    have HN:=AC (λh:CO B=>t7 (HH.1 h).2.1)
    go_wp2_with fail
    refine G.mono ?_;rintro e w1 ⟨rfl,U⟩;subst U;go_wp2
    go_ret2
    exact ⟨0,false,rfl,AB I,Dj HN,λh=>absurd h HN⟩
   by_cases t8:64+56*x<=(B.length:Int)
   case neg=>
    have HN:=AC (λh:CO B=>t8 (HH.1 h).2.2)
    go_wp2_with fail
    refine G.mono ?_;rintro e w1 ⟨rfl,U⟩;subst U;go_wp2
    go_ret2
    exact ⟨0,false,rfl,AB I,Dj HN,λh=>absurd h HN⟩
   go_wp2_with fail
   refine G.mono ?_;rintro e w1 ⟨rfl,U⟩;subst U;go_wp2
   go_ret2
   exact ⟨x,true,rfl,AB I,⟨λ_=>HH.2 ⟨t6,t7,t8⟩,λ_=>rfl⟩,λ_=>AB HX⟩
def JA (L:List Int):List Value:=L.map (Value.int .i64)
def Vn:∀ss,Bu ss<=512->∀j,j<512-Bu ss->(room ss)[j]? =some 0
 |[],_,j,hj=>by
  unfold room MK;rw [xn];simp [Bu] at hj
  simp [hj]
 |s::r,h,j,hj=>by
  have hr:Bu r<=512:=by unfold Bu at h;omega
  unfold room;have hl:512-Bu (s::r)+(Gn s).length<=(room r).length:=by rw [Db r hr,Jh];unfold Bu at h ⊢;omega
  rw [EA _ _ _ hl,vu hj];exact Vn r hr j (by unfold Bu at hj;omega)
def PM (m:Nat) (hl:off+xs.length+m<=L.length) (h:∀j,off+xs.length<=j->j<off+xs.length+m->L[j]? =some 0):
  splice L off (xs++List.replicate m 0)=splice L off xs:=by
 apply ru;intro j;rw [EA _ _ _ sO,EA _ _ _ om];simp only [zm,tz];by_cases a:j<off
 ·simp [a]
 ·by_cases c:j<off+xs.length
  ·rw [vz a,vu om,vz a,vu c,zo om]
  ·by_cases d:j<off+xs.length+m
   ·rw [vz a,vu om,vz a,vz c,zn om,xn,vu om,h j om d]
   ·rw [vz a,vz om,vz a,vz c]
def K6 (ys:List Int):Cg (xs++ys)=Cg xs++Cg ys:=by simp [Cg]
def QK:Cg [x]=Fm x:=by simp [Cg]
def Vo:Fm 0=List.replicate 8 0:=dz
def PN (ss:List ByteArray):(Et ss).take (ss.length+1)=((ss.length:Nat):Int)::Es ss:=by
 unfold Et;rw [List.take_succ_cons,xy (by rw [Da];omega),xx (by rw [Da];omega)]
def iE (ss:List ByteArray):Et ss=(Et ss).take (ss.length+1)++[0]:=by
 rw [PN];simp [Et]
def dL (ss:List ByteArray) (k:Nat) (h:k<ss.length):(Et ss)[k+1]? =some ((Es ss).getD k 0):=by
 unfold Et;rw [List.getElem?_cons_succ,zo (by rw [Da];exact h)];simp [List.getD,zz (show k<(Es ss).length by rw [Da];exact h)]
def NU (k:Nat) (x:Int) (h:ws[k]? =some x):Cg (ws.take (k+1))=Cg (ws.take k)++Fm x:=by
 obtain ⟨hk,e⟩:=zy.1 h;rw [List.take_succ_eq_append_getElem hk,K6,e,QK]
def iF (ss:List ByteArray) (X k:Nat) (h:k<ss.length) (hl:(room ss).length=512) (hX:X+8*(ss.length+2)<=512):
  splice (splice (room ss) X (Cg ((Et ss).take (k+1)))) (0+(X+8+8*k)) (Fm ((Es ss).getD k 0))=splice (room ss) X (Cg ((Et ss).take (k+1+1))):=by
 have hw:(Cg ((Et ss).take (k+1))).length=8*(k+1):=by rw [FO,yr,E6];omega
 rw [NU (Et ss) (k+1) _ (dL ss k h),<-GN _ _ _ _ (by rw [hw,ET,hl];omega),hw];congr 1;omega
def iG (ss:List ByteArray) (X:Nat) (C:Cv ss=true) (hX:X=Dc ss):splice (room ss) X (Cg ((Et ss).take (ss.length+1)))=AS ss:=by
 have ht:Bu ss<=248:=by have:=DG C 0;simpa using this
 have h8:=(LT C).1;have hl:=Db ss om;have hw:(Cg ((Et ss).take (ss.length+1))).length=8*(ss.length+1):=by rw [FO,yr,E6];omega
 have hs:X+8*(ss.length+2)<=512-Bu ss:=by rw [hX,Dc];omega
 rw [AS,<-hX]
 conv=>rhs;rw [iE ss,K6,QK,Vo]
 rw [PM _ _ _ _ (by rw [hw,hl];omega) (λj h1 h2=>Vn ss om j (by rw [hw] at h2;omega))]
def lS (ss:List ByteArray) (k:Nat) (h:k<ss.length):(JA (Es ss).reverse)[ss.length-1-k]? =some (iV ((Es ss).getD k 0)):=by
 have hl:=Da ss;unfold JA;rw [ze,List.getElem?_reverse om,hl,show ss.length-1-(ss.length-1-k)=k from om,List.getD,zz om];rfl
def Vp:∀(ss:List ByteArray) (k:Nat),k<ss.length->0<=(Es ss).getD k 0/\(Es ss).getD k 0<=65536
 |[],k,h=>by simp at h
 |s::r,0,h=>by simp [Es];omega
 |s::r,k+1,h=>by
  have:=Vp r k (sU h);simpa [Es] using this
def SI (ss:List ByteArray) (w:World) (hn:ss.length<=1000) (ha:0<ss.length->a=some (xK b off))
  (C:∀i,i<ss.length->w.cell? (xK b (off+i))=some (.string (ss.getD i ByteArray.empty))) (D:Cv ss=false):
  cT 73 #[.slice a ss.length cap] w λe w'=>e= .returned (.tuple #[sN,uV 0,.iface 40 (iV 6)])/\w'=w:=by
 obtain ⟨HC,HA,HO⟩:=H3 C ha D;clear C ha D;go_enter func73,ntmps73
 go_wp2_with fail
 refine (N5 a b off cap ss _ hn HA HC).mono ?_;rw [AB HO];rintro e w' ⟨rfl,rfl⟩;go_wp2
 go_ret3
 exact ⟨rfl,rfl⟩
def dM (hj:j<s.size) (h:(s[j].toNat:Int)=0):DZ s=false:=by
 have:s[j]=0:=by
  apply UInt8.toNat_inj.1;have:s[j].toNat=0:=om;simpa using this
 have hm:(0:UInt8)∈s.data.toList:=by
  rw [<-this];exact rp (l:=s.data.toList) (sU hj)
 simp [DZ,hm]
def lT (h:DZ s=true) (hj:j<s.size):(s[j].toNat:Int)≠0:=λe=>by
 have:=dM hj e;rw [h] at this;cases this
def Vq (h:s.size<=30) (h0:∀j,(hj:j<s.size)->(s[j].toNat:Int)≠0):DZ s=true:=by
 have:¬(0:UInt8)∈s.data.toList:=λm=>by
  obtain ⟨j,hj,e⟩:=List.getElem_of_mem m;have C:j<s.size:=sU hj;have:s[j]=0:=e;exact h0 j C (by rw [this];rfl)
 simp [DZ,h,this]
def SJ (ss:List ByteArray) (w:World) (hn:ss.length<=1000) (ha:0<ss.length->a=some (xK b off))
  (C:∀i,i<ss.length->w.cell? (xK b (off+i))=some (.string (ss.getD i ByteArray.empty))) (hs:∀s∈ss,s.size<=maxLen) (J:Cv ss=false):
  cT 85 #[.slice a ss.length cap] w λe w'=>e= .returned (.tuple #[sN,uV 0,iV 6])/\w'=w:=by
 obtain ⟨HC,HA,HO⟩:=H3 C ha J;by_cases h8:8<ss.length
 ·clear C ha J;go_enter func85,ntmps85;go_wp2
  go_ret3
  exact ⟨rfl,rfl⟩
 ·clear C ha J;go_enter func85,ntmps85;go_wp2
  go_loop [5] (λi=>∃k:Nat,k<=ss.length/\i= iV k/\(ss.take k).all DZ=true) (λi=>ss.length-(intOf i).toNat)
  case atStart=>exact ⟨0,om,rfl,rfl⟩
  case round=>
   obtain ⟨k,hk,rfl,G⟩:=hrel;have D:=AC G;clear G;by_cases H:k<ss.length
   ·have T:=(AB HC) k H;have e:=(AB HA) om;subst e;have M:=hs (ss.getD k ByteArray.empty) (by simp [List.getD,zz H]);obtain ⟨s,I⟩:=xE (ss.getD k ByteArray.empty);rw [<-I] at T M;have HS:=AC I;unfold maxLen at M;clear I;by_cases hl:s.size<=30
    ·go_wp2
     go_loop [6] (λi=>∃j:Nat,j<=s.size/\i= iV j/\∀m,(hm:m<s.size)->m<j->(s[m].toNat:Int)≠0) (λi=>s.size-(intOf i).toNat)
     case atStart=>exact ⟨0,om,rfl,λm hm h=>om⟩
     case round=>
      obtain ⟨j,hj,rfl,N⟩:=hrel;have O:=AC N;clear N;by_cases U:j<s.size
      ·by_cases hz:(s[j].toNat:Int)=0
       ·have hb:((s[j].toNat:Int)==0)=true:=sU hz;have HZ:=AC hz;clear hz;go_wp2
        go_ret3
        exact ⟨rfl,rfl⟩
       ·have hb:((s[j].toNat:Int)==0)=false:=sU hz;have HZ:=AC hz;clear hz;go_wp2
        go_round
        case rel=>
         refine ⟨j+1,om,by go_num,λm hm h=> ?_⟩;by_cases e:m=j
         ·subst e;exact AB HZ
         ·exact AB O m hm om
        case measure=>simp [intOf];omega
      ·have F:=AC (Vb H (by rw [<-AB HS];exact Vq hl (λm hm=>AB O m hm om)) (AB D));go_wp2
       go_round
       case rel=>exact ⟨k+1,om,by go_num,AB F⟩
       case measure=>simp [intOf];omega
    ·go_wp2
     go_ret3
     exact ⟨rfl,rfl⟩
   ·exfalso;have:ss.all DZ=true:=by have:=AB D;rwa [xx om] at this
    have h2:=AB HO;simp [Cv,this] at h2;omega
end Go.Proofs.YtpcjkidgohpeoaaGreatDoor
