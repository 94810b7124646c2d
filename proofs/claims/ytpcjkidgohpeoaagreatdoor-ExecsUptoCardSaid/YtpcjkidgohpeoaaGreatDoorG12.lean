import Derived.Test.YtpcjkidgohpeoaaGreatDoorG10
import Derived.Test.YtpcjkidgohpeoaaGreatDoorG11
set_option maxRecDepth 100000
set_option maxHeartbeats 2000000
set_option linter.all false
namespace Go.Proofs.YtpcjkidgohpeoaaGreatDoor
open RowKit Proofs.Tryz
variable {P:Program} {ops:Array Oper} {o:Oper} {a:Act} {w:World} {Q:Exit->Act->World->Prop}
def Yw (x:Int):0<=IntKind.u64.wrap x/\IntKind.u64.wrap x<=18446744073709551615:=by
 rw [yh];omega
def Gr {PS:List Pg} (h:Bc PS) (j:Nat):DR PS j=0/\PS.find? (λp=>p.num==(j:Int))=none\/1<=DR PS j/\∃p,p∈PS/\PS.find? (λp=>p.num==(j:Int))=some p/\DR PS j=p.perm:=by
 unfold DR
 cases hf:PS.find? (λp=>p.num==(j:Int)) with
 |none=>exact .inl ⟨rfl,rfl⟩
 |some p=>exact .inr ⟨(h.each p (yk hf)).2.2.1,p,yk hf,rfl,rfl⟩
def G1 (pb so:Nat) (PS:List Pg) (w:World) (D:Bc PS) (hc:∀j:Nat,j<256->w.cell? (xK pb (so+j*257))=some (.int .u8 (DR PS j))):
  cT 75 #[qP pb so] w λe w'=>e= .returned (iV (PS.length:Nat))/\w'=w:=by
 have HC:=AC hc;have C:=AC D;clear hc D;go_enter func75,ntmps75;go_wp2
 go_loopw [3,5] (λc i wr=>∃j:Nat,j<=256/\i= iV j/\c= iV ((Ee PS j).length:Nat)/\wr=w) (λ_ i _=>256-(intOf i).toNat)
 case atStart=>exact ⟨0,om,rfl,rfl,rfl⟩
 case round=>
  obtain ⟨j,hj,rfl,rfl,rfl⟩:=hrel;by_cases E:j<256
  ·have B:=AB HC j E;have H:(0:Int)<=(j:Int):=om;have F:(j:Int)<256:=om;have hl:=Il PS j;have hs:=JE PS j;obtain ⟨n,hn⟩:=xE ((Ee PS j).length);obtain ⟨v,hv⟩:=xE (DR PS j);rw [<-hn] at hl ⊢;rw [<-hv] at B;have G:(n:Int)<=256:=om;rcases Gr C j with ⟨h1,h2⟩|⟨h1,p,_,h2,_⟩
   ·have HE:=AC (show (Ee PS (j+1)).length=n by rw [hs,h2,hn];simp);have k0:v=0:=om;subst k0;clear hs hn hv h1 h2 hl;go_wp2;exact ⟨⟨j+1,om,sI,by rw [AB HE],trivial⟩,by simp only [intOf];omega⟩
   ·have HE:=AC (show (Ee PS (j+1)).length=n+1 by rw [hs,h2,hn];simp);have k0:(v==0)=false:=sO;clear hs hn h1 h2 hl;clear hv;go_wp2;exact ⟨⟨j+1,om,sI,by rw [AB HE];simp,trivial⟩,by simp only [intOf];omega⟩
  ·have:j=256:=om;subst this;rw [Kg (AB C)];go_wp2;go_ret;exact ⟨rfl,rfl⟩
def Vv {α:Type} (L:List α) (o:Nat) (v:α) (r:List α) (h:o+(r.length+1)<=L.length):splice (L.set o v) (o+1) r=splice L o (v::r):=by
 have a:=Hc L o [v] 0 v rfl sO;simp only [List.take_zero,En,sq,zq] at a;rw [a,show (List.take 1 [v])=[v] from rfl];exact GN L o [v] r sO
def Jt (off:Nat):∀(vs:List Value) (k:Nat) (L:List Value),off+k+vs.length<=L.length->(vs.zipIdx k).foldl (λcs (x:Value×Nat)=>cs.setIfInBounds (off+x.2) x.1) L.toArray=(splice L (off+k) vs).toArray
 |[],k,L,_=>by rw [En];rfl
 |v::r,k,L,h=>by
  have h':off+k+(r.length+1)<=L.length:=h;rw [List.zipIdx_cons,List.foldl_cons];show (r.zipIdx (k+1)).foldl _ (L.toArray.setIfInBounds (off+k) v)=_;rw [zl,Jt off r (k+1) (L.set (off+k) v) (by rw [yu];omega),<-sd,Vv L (off+k) v r h']
def Dw (B:Nat->Option (Nat×Nat)) (L:List Value) (i off C:Nat) (v:Value) (rest:List (Nat×Value)) (hp:B i=some (off,C)) (hs:v.cells.size=C) (D:off+C<=L.length):
  Instr.fill B L.toArray ((i,v)::rest)=Instr.fill B (splice L off v.cells.toList).toArray rest:=by
 rw [Instr.fill];simp only [hp];rw [vz (by simp [hs];omega)];congr 1;have h:=Jt off v.cells.toList 0 L (by rw [xl,hs];omega);rw [sq] at h;rw [<-h,<-Array.foldl_toList,Array.toList_zipIdx]
def Vw (w:World):((#[{name:= "perm",type:=162,offset:=0,embedded:=false,tag:= "",pkgPath:= "tinyos/mem",byteOffset:=0},{name:= "bytes",type:=134,offset:=1,embedded:=false,tag:= "",pkgPath:= "tinyos/mem",byteOffset:=1}]:Array Field).mapM λf=>(do pure (f.offset,<-sizeOf f.type):Sem (Nat×Nat))).run prog w= .ok #[(0,1),(1,256)] w:=kf
def nY (C:Int) (B:List Int) (hb:B.length=256) (w:World):(Instr.build 183 #[(0,.int .u8 C),(1,.agg (AF B).toArray)]).run prog w= .ok (.agg (Bi ⟨0,C,B⟩).toArray) w:=by
 have D:=zeroValue183 w;have hl:zeroCells183.toList.length=257:=by rw [xl];exact zeroCells183_size
 generalize zeroCells183=ZA at D hl;obtain ⟨Z⟩:=ZA;have hl:Z.length=257:=hl
 have E:Instr.fill (λi=>(#[(0,1),(1,256)]:Array (Nat×Nat))[i]?) (Value.agg Z.toArray).cells [(0,Value.int .u8 C),(1,Value.agg (AF B).toArray)]=some (Bi ⟨0,C,B⟩).toArray:=by
  show Instr.fill _ Z.toArray _=_;rw [Dw _ _ 0 0 1 _ _ rfl rfl (by rw [hl];omega),Dw _ _ 1 1 256 _ _ rfl (by simp [Value.cells,AG,hb]) (by rw [BJ _ _ _ (by simp [Value.cells,hl])];omega)];refine congrArg some (congrArg List.toArray ?_)
  cases Z with
  |nil=>simp at hl
  |cons z r=>
   have hr:r.length=256:=sU hl;unfold splice Bi;simp [Value.cells,AG,hb,hr]
 unfold Instr.build;simp only [uk,D,ye,ue underlying183,Vw,E];rfl
def dh (p:Pg) (hb:p.bytes.length=256):List.foldl (λ(cs:Array Value) (x:Value×Nat)=>cs.setIfInBounds (1+x.snd) x.fst) (zeroCells183.setIfInBounds 0 (.int .u8 p.perm)) (AF p.bytes).zipIdx=(Bi p).toArray:=by
 have hl:zeroCells183.toList.length=257:=by rw [xl];exact zeroCells183_size
 generalize zeroCells183=ZA at hl;obtain ⟨Z⟩:=ZA;have hl:Z.length=257:=hl;rw [zl,Jt 1 (AF p.bytes) 0 _ (by rw [yu,AG,hb,hl];omega)];refine congrArg List.toArray ?_
 cases Z with
 |nil=>simp at hl
 |cons z r=>
  have hr:r.length=256:=sU hl;unfold splice Bi;simp [AG,hb,hr]
def GT (f:Nat->Int) (perm x:Int):Bool:=decide (x<65536)&& !(bits .and .u8 (f (x/256).toNat) perm==0)
def Cl (f:Nat->Int) (perm addr:Int) (n:Nat):Bool:=(List.range n).all λi:Nat=>GT f perm (IntKind.u64.wrap (addr+(i:Int)))
def SW (f:Nat->Int) (B C:Int) (n:Nat):Cl f B C (n+1)=(Cl f B C n&&GT f B (IntKind.u64.wrap (C+(n:Int)))):=by
 unfold Cl;rw [qf,List.all_append];simp
def Oi {f:Nat->Int} {B C:Int} {j n:Nat} (hj:j<n) (h:GT f B (IntKind.u64.wrap (C+(j:Int)))=false):Cl f B C n=false:=by
 unfold Cl;rw [List.all_eq_false];exact ⟨j,zf.2 hj,by rw [h];decide⟩
def Ws (pb so:Nat) (f:Nat->Int) (B C:Int) (n:Nat) (w:World) (hn:n<=10000) (hc:∀j:Nat,j<256->w.cell? (xK pb (so+j*257))=some (.int .u8 (f j))):
  cT 318 #[qP pb so,.int .u8 B,uV C,iV n] w λe w'=>e= .returned (.bool (Cl f B C n))/\w'=w:=by
 have HC:=AC hc;clear hc;go_enter func318,ntmps318;go_wp2
 go_loopw [12] (λi wr=>∃j:Nat,j<=n/\i= iV j/\Cl f B C j=true/\wr=w) (λi _=>n-(intOf i).toNat)
 case atStart=>exact ⟨0,om,rfl,rfl,rfl⟩
 case round=>
  obtain ⟨j,hj,rfl,hm,rfl⟩:=hrel;by_cases F:j<n
  ·have U:(j:Int)<(n:Int):=om;have V:IntKind.u64.wrap (j:Int)=(j:Int):=by rw [yh];omega
   obtain ⟨X,hX⟩:=xE (IntKind.u64.wrap (C+(j:Int)));have G:0<=X:=by rw [hX,yh];omega
   have T:X<=18446744073709551615:=by rw [hX,yh];omega
   have q1:=hX.symm;by_cases R:65536<=X
   ·have HR:Hid (Cl f B C n=false):=Oi F (by rw [<-hX];unfold GT;simp;omega);clear hX hm;go_wp2;go_ret;exact ⟨by rw [AB HR];rfl,rfl⟩
   ·obtain ⟨M,hM⟩:∃M:Nat,(M:Int)=X/256:=⟨(X/256).toNat,om⟩;have L:M<256:=om;have D:=AB HC M L;have E:(X/256).toNat=M:=om;have O:X.tdiv 256=(M:Int):=by rw [tj G];exact hM.symm
    obtain ⟨P,hP⟩:=xE (f M);rw [<-hP] at D;by_cases hz:bits .and .u8 P B=0
    ·have HR:Hid (Cl f B C n=false):=Oi F (by rw [<-hX];unfold GT;rw [E,<-hP];simp [hz]);have J:(0:Int)<=(M:Int):=om;have H:(M:Int)<256:=om;have I:(bits .and .u8 P B==0)=true:=sU hz;clear hX hm hM E hP hz;go_wp2;go_ret;exact ⟨by rw [AB HR];rfl,rfl⟩
    ·have HR:=AC (show Cl f B C (j+1)=true from by
      rw [SW,hm,<-hX];unfold GT;rw [E,<-hP];simp [hz];omega)
     have J:(0:Int)<=(M:Int):=om;have H:(M:Int)<256:=om;have I:(bits .and .u8 P B==0)=false:=sU hz;clear hX hm hM E hP hz;go_wp2;exact ⟨⟨j+1,om,sI,AB HR,trivial⟩,by simp only [intOf];omega⟩
  ·have N:j=n:=om;subst N;have HR:=AC hm;clear hm;go_wp2;go_ret;exact ⟨by rw [AB HR];rfl,rfl⟩
def eb (a:Option Addr) (b off c2:Nat) (ss:List ByteArray) (w:World) (hn:ss.length<=1000) (ha:0<ss.length->a=some (xK b off)) (d4:b<w.heap.size)
  (E:∀i,i<ss.length->w.cell? (xK b (off+i))=some (.string (ss.getD i ByteArray.empty))) (a6:Cv ss=true):
  cT 73 #[.slice a ss.length c2] w λe w'=>∃g,e= .returned (.tuple #[sL g 0 2 2,uV (65024+(Dc ss:Int)),.nilIface])/\AE w' g 164 (Cb (AS ss) 2)/\w.heap.size<=g/\Bw w w':=by
 have HC:=AC E;have HA:=AC ha;have HO:=AC a6;have g8:=(LT a6).1
 have g5:∀w,(Instr.makeSlice 278 (iV ((ss.length:Int)+2)) (iV ((ss.length:Int)+2))).run prog w= .ok (sL w.heap.size 0 (ss.length+2) (ss.length+2)) (w.alloc (.cells (F7 (ss.length+2)) 73)):=by
  intro w;have:=run_make_row' (P:=prog) 278 73 (uV 0) 8 underlying278 lN rfl .i64 .i64 (ss.length+2) om om w;rwa [show (((ss.length+2:Nat)):Int)=(ss.length:Int)+2 from om,dA] at this
 have g0:=SC (ss.length+2) 0 om;clear E ha a6;go_enter func73,ntmps73
 go_wp2_with fail
 refine (N5 a b off c2 ss _ hn HA HC).mono ?_;rw [AB HO];rintro e wx ⟨rfl,d3⟩;subst d3
 go_wp2_with (refine Bh rfl 277 rfl ML Vc ?_)
 go_loopw [7,8] (λc3 i wr=>∃k:Nat,k<=ss.length/\i= iV ((k:Int)-1)/\c3= iV ((512-Bu (ss.drop k):Nat):Int)/\AE wr wx.heap.size 277 (AF (room (ss.drop k)))/\AE wr (wx.heap.size+1) 73 (Dt (E7 ss k))/\Bw wx wr/\wx.heap.size+2<=wr.heap.size)
  (λ_ i _=>(intOf i+1).toNat)
 case atStart=>
  refine ⟨ss.length,zx _,rfl,?_,?_,?_,?_,?_⟩
  ·simp [Bu]
  ·rw [List.drop_length,room];exact (AE.new _ _ _).alloc _
  ·rw [Py];have:=AE.new (wx.alloc (.cells ML 277)) 73 (Dt (((ss.length:Nat):Int)::List.replicate (ss.length+1) 0));simpa [E7,Es,List.replicate_succ'] using this
  ·exact bA.alloc sI _
  ·simp
 case round=>
  obtain ⟨k,hk,rfl,rfl,D,C,M,f7⟩:=hrel;have a5:=AC D;have a7:=AC C;have a1:=AC M;clear D C M;rcases k with _|k
  ·have ht:Bu ss<=248:=by have:=DG (AB HO) 0;simpa using this
   obtain ⟨T,hT⟩:=xE (512-Bu (ss.drop 0));rw [<-hT];rw [List.drop_zero] at hT;obtain ⟨V,hV⟩:=xE (T-8*(ss.length+2));obtain ⟨X,hX⟩:=xE (Dc ss);have c6:X=V-V%16:=by rw [hX,Dc,hV,hT];omega
   have q1:(T:Int)-8*((ss.length:Int)+2)=(V:Int):=om;have q2:(V:Int)-(V:Int)%16=(X:Int):=om;have f8:X+8*(ss.length+2)<=512:=om;have g7:¬512=X:=om;have d7:(X:Int)<=512:=om;have h2:(0:Int)<=(X:Int):=om;have g1:(V:Int)<=512:=om;have h0:(T:Int)<=512:=om;have HX:=AC hX;have h1:=cz;have a3:(room ss).length=512:=Db _ om;have P:=UA wx.heap.size X (512-X) (512-X) 277 (room ss) (wx.heap.size+1) (ss.length+2) 73 (Et ss) wr (sU (AB a5)) (by rw [<-UD];exact AB a7) om (by rw [E6];omega) om om;rw [E6] at P;have HP:=AC P;clear hT hV hX c6 P a3
   go_wp2_with fail
   refine HP.mono ?_;rintro e w3 ⟨rfl,N,G⟩;have b5:AE w3 wx.heap.size 277 (AF (AS ss)):=by rw [AS,<-AB HX];exact N
   have d2:=AC (a1.trans (Aa G (zx _) om));have f5:wx.heap.size+2<=w3.heap.size:=o1 G.size;have f3:=AC b5;clear b5 N G HP a5 a7 a1;have a4:=CE HO;have I:=AC a4;have b8:=Jj (AS ss) a4;have a8:=AC b8;obtain ⟨R,hR⟩:=xE (AS ss);rw [<-hR] at a4;clear hR a4 b8
   go_wp2_with fail
   go_loopw [69] (λi wr=>∃k:Nat,k<=2/\i= iV k/\AE wr w3.heap.size 164 (Cb (AS ss) k)/\AE wr wx.heap.size 277 (AF (AS ss))/\Bw wx wr) (λi _=>2-(intOf i).toNat)
   case atStart=>exact ⟨0,om,rfl,AE.new _ _ _,f3.alloc _,d2.alloc om _⟩
   case round=>
    obtain ⟨k,hk,rfl,Z,N,b7⟩:=hrel;have f9:=Z.lt;have cs:∀j,j<516->wr.cell? (xK w3.heap.size j)=some ((Cb (AS ss) k).getD j .nilIface):=λj hj=>Z.cell (by rw [List.getD,zz (by rw [AB a8];exact hj)];rfl);have cf:∀j,wr.frozen? (xK w3.heap.size j)=false:=λj=>Z.frozen j;have a9:=AC Z;have b6:=AC N;have b3:=AC b7;clear Z N b7;have d6:k=0\/k=1\/k=2:=om;rcases d6 with rfl|rfl|rfl
    ·have c0:=cs 0 om;have c1:=cs 1 om;have f0:=cf 0;have f1:=cf 1;generalize (Cb (AS ss) 0).getD 0 .nilIface=v0 at c0;generalize (Cb (AS ss) 0).getD 1 .nilIface=v1 at c1;clear cs cf;rw [show ((0:Nat):Int)=(0:Int) from rfl];have Y:=(a9.set 0 (iV 254)).set 1 (.int .u8 6);have O:=(b6.set_other (c:=w3.heap.size) om 0 (iV 254)).set_other (c:=w3.heap.size) om 1 (.int .u8 6);have a0:=(b3.setCell (p:=(xK w3.heap.size 0)) (by show wx.heap.size<=w3.heap.size;omega) (iV 254)).setCell (p:=(xK w3.heap.size 1)) (by show wx.heap.size<=w3.heap.size;omega) (.int .u8 6);have c9:IntKind.i64.wrap 0=0:=dz;have d5:IntKind.i64.wrap 256=256:=dz;have b4:=AC Y;have L:=AC O;have b1:=AC a0;clear Y O a0;go_wp2
     go_region_held3 (λ_=>True) (trivial)
      ((refine FQ (by rfl) _ _ 36 36 (by rfl) 5 underlying36 LU w3.heap.size 2 256 256 wx.heap.size 0 512 512 (by rfl) (by rfl) (((Cb (AS ss) 0).set 0 (iV 254)).set 1 (.int .u8 6)) 164 (by exact b4.heap rfl) (AF ((AS ss).take 256)) (by rw [AG];simp [AB I]) (by exact ox L) (Dd _) (by rw [AG,yu,yu,AB a8];simp [AB I]) ?_;intro w5 b2 B))
     have r1:=AB b2;rw [Vd _ (AB I)] at r1;have H:((wr.setCell (xK w3.heap.size 0) (iV 254)).setCell (xK w3.heap.size 1) (.int .u8 6)).grownBy w5 (some w3.heap.size):=⟨B.os,B.tape,B.output,B.size,B.block⟩;have r2:=L.grown H sO;have r3:=b1.trans (Aa H om (by simp [World.setCell];omega));have H1:=AC r1;have H2:=AC r2;have H3:=AC r3;clear r1 r2 r3 B H;go_wp2
     go_roundw
     case rel=>exact ⟨1,om,rfl,AB H1,AB H2,AB H3⟩
     case measure=>simp [intOf]
    ·have c0:=cs 258 om;have c1:=cs 259 om;have f0:=cf 258;have f1:=cf 259;generalize (Cb (AS ss) 1).getD 258 .nilIface=v0 at c0;generalize (Cb (AS ss) 1).getD 259 .nilIface=v1 at c1;clear cs cf;rw [show ((1:Nat):Int)=(1:Int) from rfl];have Y:=(a9.set 258 (iV 255)).set 259 (.int .u8 6);have O:=(b6.set_other (c:=w3.heap.size) om 258 (iV 255)).set_other (c:=w3.heap.size) om 259 (.int .u8 6);have a0:=(b3.setCell (p:=(xK w3.heap.size 258)) (by show wx.heap.size<=w3.heap.size;omega) (iV 255)).setCell (p:=(xK w3.heap.size 259)) (by show wx.heap.size<=w3.heap.size;omega) (.int .u8 6);have c9:IntKind.i64.wrap 0=0:=dz;have d5:IntKind.i64.wrap 256=256:=dz;have b4:=AC Y;have L:=AC O;have b1:=AC a0;clear Y O a0;go_wp2
     go_region_held3 (λ_=>True) (trivial)
      ((refine FQ (by rfl) _ _ 36 36 (by rfl) 5 underlying36 LU w3.heap.size 260 256 256 wx.heap.size 256 256 256 (by rfl) (by rfl) (((Cb (AS ss) 1).set 258 (iV 255)).set 259 (.int .u8 6)) 164 (by exact b4.heap rfl) (AF ((AS ss).drop 256)) (by rw [AG];simp [AB I]) (by exact oy L) (Dd _) (by rw [AG,yu,yu,AB a8];simp [AB I]) ?_;intro w5 b2 B))
     have r1:=AB b2;rw [Ve _ (AB I)] at r1;have H:((wr.setCell (xK w3.heap.size 258) (iV 255)).setCell (xK w3.heap.size 259) (.int .u8 6)).grownBy w5 (some w3.heap.size):=⟨B.os,B.tape,B.output,B.size,B.block⟩;have r2:=L.grown H sO;have r3:=b1.trans (Aa H om (by simp [World.setCell];omega));have H1:=AC r1;have H2:=AC r2;have H3:=AC r3;clear r1 r2 r3 B H;go_wp2
     go_roundw
     case rel=>exact ⟨2,om,rfl,AB H1,AB H2,AB H3⟩
     case measure=>simp [intOf]
    ·rw [show ((2:Nat):Int)=(2:Int) from rfl];clear cs cf;go_wp2
     go_ret3
     exact ⟨w3.heap.size,by rw [<-AB HX];rfl,AB a9,om,AB b3⟩
  ·have ht:Bu (ss.drop (k+1))<=248:=DG HO (k+1);have c5:Bu (ss.drop k)<=248:=DG HO k;have b9:=Pz (ss:=ss) (k:=k) om;have J:=UC HO (k:=k) om;have e:=(AB HA) om;subst e
   have c4:wr.cell? (xK b (off+k))=some (.string (ss.getD k ByteArray.empty)):=by
    rw [a1.cell (p:=(xK b (off+k))) d4];exact (AB HC) k om
   obtain ⟨s,hs⟩:=xE (ss.getD k ByteArray.empty);rw [<-hs] at c4 b9 J;have HS:=AC hs;obtain ⟨U,hU⟩:=xE (512-Bu (ss.drop k));have hT:((512-Bu (ss.drop (k+1)):Nat):Int)=(U:Int)+((s.size:Int)+1):=om;rw [hT];have HU:=AC hU;have f2:b<wr.drew.heap.size:=by show b<wr.heap.size;omega
   have d1:b≠wx.heap.size:=om;have g2:U<512:=om;have d9:¬512=U:=om;have f6:U+s.size+1<=512:=om;have g4:264<=U:=om;have g9:k<8:=om;have e1:(((k+1:Nat):Int)-1)=(k:Int):=om;rw [e1];have f4:(k:Int)<(ss.length:Int):=om;have g3:(0:Int)<=(k:Int):=om;have h4:(0:Int)<=(U:Int):=om;have h3:(U:Int)<=512:=om;have a3:(AF (room (ss.drop (k+1)))).length=512:=by rw [AG,Db _ om]
   have c7:=AC a3;clear hs b9 hT hU e1 ht c5 a3;go_wp2
   go_region_held3 (λw'=>w'.cell? (xK b (off+k))=some (.string s)) (first|go_keep|(rw [LN F f2 d1];assumption))
    ((refine IH (by rfl) _ _ 36 9 (by rfl) 5 underlying36 LU wx.heap.size U (512-U) (512-U) s (by rfl) (by rfl) (AF (room (ss.drop (k+1)))) 277 (by exact a5.heap rfl) om (by rw [AB c7];omega) ?_;intro w2 c8 F))
   have a2:=(a7.heap (W':=wr.drew) rfl).grown F sI;have d8:=Px ss (k+1) hk;have d0:w2.cell? (xK (wx.heap.size+1) (k+1))=some (uV ((E7 ss (k+1)).getD (k+1) 0)):=a2.cell (MC _ _ om);have g6:w2.frozen? (xK (wx.heap.size+1) (k+1))=false:=a2.frozen _;have G:wr.grownBy w2 (some wx.heap.size):=⟨F.os,F.tape,F.output,F.size,F.block⟩;have R1:=c8.set_other (c:=wx.heap.size+1) om (k+1) (uV (65024+(U:Int)));have eR:splice (room (ss.drop (k+1))) U (Gn s)=room (ss.drop k):=by rw [Sy (ss:=ss) (k:=k) om,<-AB HS,<-AB HU]
   rw [Ji,CD,eR] at R1;have R2:=a2.set (k+1) (uV (65024+(U:Int)))
   have eW:(E7 ss (k+1)).set (k+1) (65024+(U:Int))=E7 ss k:=by
    have:=UE ss k om;rwa [show ((65024+(512-Bu (ss.drop k)):Nat):Int)=65024+(U:Int) from o1 (AB HU)] at this
   rw [Tq,eW] at R2;have R3:=(a1.trans (Aa G (zx _) om)).setCell (p:=(xK (wx.heap.size+1) (k+1))) sI (uV (65024+(U:Int)));have b0:wx.heap.size+2<=w2.heap.size:=o1 G.size;obtain ⟨x,hx⟩:=xE ((E7 ss (k+1)).getD (k+1) 0);rw [<-hx] at d0;have H1:=AC R1;have H2:=AC R2;have H3:=AC R3;clear R1 R2 R3 a2 F G hx d8 eR eW;go_wp2
   go_roundw
   case rel=>exact ⟨k,om,rfl,by rw [<-AB HU],AB H1,AB H2,AB H3,by simp only [World.setCell,Array.size_modify];exact b0⟩
   case measure=>simp [intOf]
def Z5 {K:Act->World->Prop} {E:Prop} (D:o.guard=none) (f:Nat) (x:Operand) (args:Array Operand) (ts:Array TypeId)
  (ho:o.op= .call {callee:= .value x,args:=args,argTypes:=ts}) (hx:a.eval x= .func (.func f) #[] #[]) (vs:Array Value) (hv:args.map a.eval=vs)
  (he:∀args w,(callFunc f args).run P w= .ok (.enter f args) w) (B:Ending->World->Prop) (hp:∀e w',B e w'->∃r,e= .returned r) (hc:Calls P f vs w B) (d:Option Tmp) (hd:o.dst=d)
  (h:∀r w',B (.returned r) w'->K (a.put d r) w'):
  if Region.wanted o (yielded ops a.tmps)=true then Oper.wp P o a w K Q else E:=by
 have hw:Region.wanted o (yielded ops a.tmps)=true:=by simp [Region.wanted,D]
 rw [vu hw];subst hd;unfold Oper.wp;simp only [execOp,ho,resolve,hx,hv];simp [invoke,Result.andThen,go_sem,he];refine hc.mono ?_;intro e w' C;obtain ⟨r,rfl⟩:=hp e w' C;have:=h r w' C;simpa [go_sem] using this
def X0 {md:Region.Mode} {S:World->Prop} {fuel:Nat} {B:Array Bool} {i:Nat} (hi:ops[i]? =some o) (D:o.guard=none) (f:Nat) (x:Operand) (args:Array Operand) (ts:Array TypeId)
  (ho:o.op= .call {callee:= .value x,args:=args,argTypes:=ts}) (hx:a.eval x= .func (.func f) #[] #[]) (vs:Array Value) (hv:args.map a.eval=vs)
  (he:∀args w,(callFunc f args).run P w= .ok (.enter f args) w) (C:Ending->World->Prop) (hp:∀e w',C e w'->∃r,e= .returned r) (hc:Calls P f vs w C) (d:Option Tmp) (hd:o.dst=d)
  (h:∀r w',C (.returned r) w'->S w'/\wpAnyH P md ops Q S fuel (B.setIfInBounds i true) (a.put d r) w'):AllReadyH P md ops Q S fuel B a w [i]:=
 vq hi (λK hK=>Z5 D f x args ts ho hx vs hv he C hp hc d hd (λr w' hr=>hK.out _ _ (h r w' hr).1 (λ_=>(h r w' hr).2))) vr
end Go.Proofs.YtpcjkidgohpeoaaGreatDoor
