import Derived.Test.YtpcjkidgohpeoaaGreatDoorG09
import Derived.Deep.Cut
import Derived.Shelf.Abstract
import Derived.Test.YtpcjkidgohpeoaaGreatDoorG07
import Derived.Lib.IndexBytes
import Derived.Lib.SplitLaws
set_option maxRecDepth 1000000
set_option maxHeartbeats 4000000
set_option linter.all false
namespace Go.Proofs.YtpcjkidgohpeoaaGreatDoor
open RowKit Proofs.Tryz
variable {w w':World} {g ga k M:Nat} {PS QS:List Pg} {n perm x:Int} {q p:Pg} {s:ByteArray} (aa:Option Addr)
def Lb (PS:List Pg) (addr:Int):Int:=match PS.find? (λp=>p.num==addr/256) with|some q=>q.bytes.getD (addr%256).toNat 0|none=>0
def mayEnter:eN 43:=enters_of func43 kf rfl
def Bs.below (h:Bs w g PS) (hb:Bw w w'):Bs w' g PS:=λi p hp=>by
 obtain ⟨a,b,c⟩:=h i p hp;refine ⟨by rw [hb.cell (p:=(xK g (i*258))) (zu w _ a)];exact a,by rw [hb.cell (p:=(xK g (i*258+1))) (zu w _ b)];exact b,λj v hv=> ?_⟩;have:=c j v hv;rw [hb.cell (p:=(xK g (i*258+2+j))) (zu w _ this)];exact this
def UJ {B:Int} (h0:0<=B) (hn:1<=n) (h:Cf PS B n perm=true):B+n<=65536/\∀j:Int,0<=j->j<n->Ed PS perm ((B+j)/256)=true:=by
 unfold Cf at h;rw [vz om] at h;split at h
 ·cases h
 ·rename_i hc
  refine ⟨om,λj C D=> ?_⟩;have h1:=za.1 h ((B+j)/256-B/256).toNat (zf.2 om);rw [show B/256+((((B+j)/256-B/256).toNat:Nat):Int)=(B+j)/256 by omega] at h1;exact h1
def QV (h:Ed PS perm n=true):∃(k:Nat) (q:Pg),Kw PS n=k/\PS[k]? =some q/\PS.find? (λp=>p.num==n)=some q:=by
 rcases QP PS n with ⟨_,hf⟩|⟨k,q,a,b,c,_⟩
 ·unfold Ed at h;rw [hf] at h;cases h
 ·exact ⟨k,q,a,b,c⟩
def BG (PS:List Pg) (addr:Int) (n:Nat):List Int:=(List.range n).map λi:Nat=>Lb PS (addr+(i:Int))
def QW (PS:List Pg) (B:Int) (n:Nat):AF (BG PS B (n+1))=AF (BG PS B n)++[.int .u8 (Lb PS (B+(n:Int)))]:=by
 unfold BG AF;rw [qf];simp
def K7 (PS:List Pg) (B:Int) (n:Nat):(BG PS B n).length=n:=by simp [BG]
def lV:(prog.info? 5).map (λi=>(i.zero,i.size,i.bytes))=some (some (.int .u8 0),1,1):=kf
def dU (hA:Bs w ga PS) (B:∀q∈PS,q.bytes.length=256/\AK q.bytes) (h0:0<=x) (hk:PS[k]? =some q) (hf:PS.find? (λp=>p.num==x/256)=some q) (hM:(M:Int)=x%256):w.cell? (xK ga (k*258+2+M))=some (.int .u8 (Lb PS x)):=by
 refine (hA k q hk).2.2 M _ ?_;have hl:=(B q (zv hk)).1;rw [AN _ _ om];unfold Lb;rw [hf];show some (Value.int .u8 (q.bytes.getD M 0))=some (.int .u8 (q.bytes.getD (x%256).toNat 0));rw [show (x%256).toNat=M by omega]
def iI (ga ca:Nat) (PS:List Pg) (B perm:Int) (n:Nat) (w:World) (ha:0<PS.length->aa=some (xK ga 0)) (hA:Bs w ga PS) (b7:ga<w.heap.size) (hn:PS.length<=100000) (T:∀q∈PS,q.bytes.length=256/\AK q.bytes) (h0:0<=B) (b5:1<=n) (hm:Cf PS B n perm=true):
  cT 101 #[.slice aa PS.length ca,uV B,iV n] w λe w'=>∃v,e= .returned v/\w'.ownsRow w.heap.size 5 1 v n (AF (BG PS B n))/\Bw w w':=by
 obtain ⟨a3,E⟩:=UJ h0 om hm;obtain ⟨i0,Y,U,Z,V⟩:=DX lV;have HI:=AC (xi Y (xi U (xi Z V)));obtain ⟨b0,HA,a0,a2⟩:=H4 E hA ha T;clear E hA ha T Y U Z V hm;go_enter func101,ntmps101;go_wp2
 go_loopw [7,8] (λv i wr=>∃j:Nat,j<=n/\i= iV j/\Hid (wr.ownsRow w.heap.size 5 1 v j (AF (BG PS B j)))/\Hid (Bw w wr)) (λ_ i _=>n-(intOf i).toNat)
 case atStart=>exact ⟨0,om,rfl,AC (uy _ _ _ _),AC (zw _ _)⟩
 case round=>
  obtain ⟨j,hj,rfl,N,D⟩:=hrel;by_cases b8:j<n
  ·obtain ⟨k,q,hk,L,hf⟩:=QV (AB b0 (j:Int) om om);have c2:=(zy.1 L).1;obtain rfl:=AB a0 om;obtain ⟨X,hX⟩:∃X:Nat,(X:Int)=B+(j:Int):=⟨(B+j).toNat,om⟩;obtain ⟨M,hM⟩:∃M:Nat,(M:Int)=(X:Int)%256:=⟨X%256,om⟩;have HF:=AC (QO (some (xK ga 0)) ga ca PS ((X:Int)/256) wr (λ_=>rfl) (HA.below D) hn);rw [show Kw PS ((X:Int)/256)=k by rw [hX];exact hk] at HF;have b1:B+(j:Int)=(X:Int):=hX.symm;have b4:(X:Int)<=65535:=om;have y1:IntKind.i64.wrap (X:Int)=(X:Int):=by rw [yg]<;>omega
   have y2:(X:Int).tdiv 256=(X:Int)/256:=tj om;have y3:(X:Int).tmod 256=(M:Int):=by rw [hM];exact yi om
   have y4:IntKind.i64.wrap ((X:Int)/256)=(X:Int)/256:=by rw [yg]<;>omega
   have y5:IntKind.i64.wrap (M:Int)=(M:Int):=by rw [yg]<;>omega
   have c4:B<=65535:=om;have b9:(0:Int)<=(k:Int):=om;have c1:(k:Int)<(PS.length:Int):=om;have HQ:=AC (xi L hf);have b3:=AC (xi hX hM);have c3:(0:Int)<=(M:Int):=om;have c0:(M:Int)<256:=om;clear hk L hf hX hM
   go_wp2_with fail
   refine HF.mono ?_;rintro e w1 ⟨rfl,a1,O⟩;obtain ⟨bv,J⟩:=xE (Lb PS (B+(j:Int)));have H:=D.trans (O.mono D.size)
   have cb:w1.cell? (xK ga (k*258+2+M))=some (.int .u8 bv):=by
    have I:=AB b3;rw [J,<-I.1];exact dU (HA.below H) (AB a2) om HQ.1 (by rw [I.1];exact HQ.2) I.2
   have G:=Aw N (AC O);obtain ⟨R,a7,b2⟩:=H3 G H J;have b6:=H.size;clear a1 O H G J HF N D b1
   go_wp2_with (at_builtin;refine wpList_append_lies _ (by rfl) _ _ 36 (by rfl) w.heap.size 5 i0 _ 1 1 underlying36 HI.1 HI.2.1 HI.2.2.1 HI.2.2.2 rfl dz _ _ _ (by rfl) (R.alloc _) (xK w1.heap.size 0) 1 1 [.int .u8 bv] (by rfl) (by rfl) (qj (cs:=#[.int .u8 bv]) (t:=5) (fr:=(0,0)) (heap_alloc_new w1 _)) (by simp [Value.oneCell']) om (by unfold maxLen;omega) om sO (w1.heap.size+1) sI ?_;intro g a5 w5 F C a8 a9)
   have a4:Bw w w5:=(a7.alloc om _).grown C sO (by intro q h;have:=R.lt q h;omega);exact ⟨⟨j+1,om,sI,AC (by rw [QW,<-AB b2];exact F),AC a4⟩,by simp only [intOf];omega⟩
  ·have a6:j=n:=om;subst a6;go_wp2;go_ret;exact ⟨_,rfl,AB N,AB D⟩
def F3 (PS:List Pg):List (Int×Int×Nat):=PS.map λp=>(p.num,p.perm,p.bytes.length)
def Ds (PS:List Pg) (x v:Int):List Pg:=match PS.findIdx? (λp=>p.num==x/256) with
 |some k=>match PS[k]? with
  |some q=>PS.set k ⟨q.num,q.perm,q.bytes.set (x%256).toNat v⟩
  |none=>PS
 |none=>PS
def CF (PS:List Pg) (addr:Int) (L:List Int):Nat->List Pg
 |0=>PS
 |j+1=>Ds (CF PS addr L j) (addr+(j:Int)) (L.getD j 0)
def Lc (PS:List Pg) (x v:Int):F3 (Ds PS x v)=F3 PS:=by
 unfold Ds;split
 ·rename_i k _
  split
  ·rename_i q hq
   unfold F3;rw [List.map_set];show (PS.map _).set k (q.num,q.perm,(q.bytes.set (x%256).toNat v).length)=_;rw [yu];have hk:=(zy.1 hq);apply ru;intro i;by_cases e:k=i
   ·subst e;rw [uj (sU hk.1),ze,hq];rfl
   ·rw [uc e]
  ·rfl
 ·rfl
def Fr (PS:List Pg) (B:Int) (L:List Int):∀j,F3 (CF PS B L j)=F3 PS
 |0=>rfl
 |j+1=>(Lc _ _ _).trans (Fr PS B L j)
def S8 (PS:List Pg) (n:Int):PS.findIdx? (λp=>p.num==n)=(F3 PS).findIdx? (λt=>t.1==n):=by
 unfold F3;rw [List.findIdx?_map];rfl
def Yv (h:F3 PS=F3 QS) (n:Int):Kw PS n=Kw QS n:=by
 unfold Kw;rw [S8,S8,h]
def Ke (h:F3 PS=F3 QS):PS.length=QS.length:=by
 have:=congrArg List.length h;simpa [F3] using this
def JC (h:F3 PS=F3 QS) (hq:QS[k]? =some q):∃p,PS[k]? =some p/\p.num=q.num/\p.perm=q.perm/\p.bytes.length=q.bytes.length:=by
 have h1:(F3 QS)[k]? =some (q.num,q.perm,q.bytes.length):=by unfold F3;rw [ze,hq];rfl
 rw [<-h] at h1;unfold F3 at h1;rw [ze] at h1
 cases hp:PS[k]? with
 |none=>rw [hp] at h1;cases h1
 |some p=>
  rw [hp] at h1;have h2:=zr h1;exact ⟨p,rfl,congrArg (·.1) h2,congrArg (·.2.1) h2,congrArg (·.2.2) h2⟩
def lW {v:Int} (hk:Kw PS (x/256)=k) (hq:PS[k]? =some q) (hM:(M:Int)=x%256):Ds PS x v=PS.set k ⟨q.num,q.perm,q.bytes.set M v⟩:=by
 unfold Ds;unfold Kw at hk
 cases hf:PS.findIdx? (λp=>p.num==x/256) with
 |none=>rw [hf] at hk;exact absurd hk (show ¬(-1:Int)=(k:Int) by omega)
 |some k'=>
  rw [hf] at hk;have e:k'=k:=by have:((k':Nat):Int)=(k:Int):=hk;omega
  subst e;show (match PS[k']? with|some q=>PS.set k' ⟨q.num,q.perm,q.bytes.set (x%256).toNat v⟩|none=>PS)=_;rw [hq,show (x%256).toNat=M by omega]
def Bs.heap (h:Bs w g PS) (hh:w'.heap=w.heap):Bs w' g PS:=λi p hp=>by
 have hc:∀a,w'.cell? a=w.cell? a:=λa=>by unfold World.cell?;rw [hh]
 obtain ⟨a,b,c⟩:=h i p hp;exact ⟨by rw [hc];exact a,by rw [hc];exact b,λj v hv=>by rw [hc];exact c j v hv⟩
def Bs.poke (h:Bs w ga PS) (hq:PS[k]? =some q) (hM:M<q.bytes.length) (hl:q.bytes.length=256) (C:∀p∈PS,p.bytes.length=256) (v:Int):Bs (w.setCell (xK ga (k*258+2+M)) (.int .u8 v)) ga (PS.set k ⟨q.num,q.perm,q.bytes.set M v⟩):=by
 have hc:cE w ga (k*258+2+M) (.int .u8 (q.bytes.getD M 0)):=(h k q hq).2.2 M _ (AN _ _ hM)
 have B:∀o:Nat,o≠k*258+2+M->∀x,w.cell? (xK ga o)=some x->(w.setCell (xK ga (k*258+2+M)) (.int .u8 v)).cell? (xK ga o)=some x:=λo ho x hx=>by
  rw [yy _ _ _ _ (by simp<;>omega)];exact hx
 intro i p hp;by_cases e:k=i
 ·subst e;rw [uj (zy.1 hq).1] at hp;obtain rfl:=zr hp;obtain ⟨a,b,c⟩:=h k q hq;refine ⟨B _ om _ a,B _ om _ b,λj x hx=> ?_⟩;show (w.setCell (xK ga (k*258+2+M)) (.int .u8 v)).cell? (xK ga (k*258+2+j))=some x;have hx:(AF (q.bytes.set M v))[j]? =some x:=hx;rw [<-Cz] at hx;by_cases ej:M=j
  ·subst ej;rw [uj (by rw [AG];exact hM)] at hx;obtain rfl:=zr hx;exact yx _ _ _ hc
  ·rw [uc ej] at hx;exact B _ om _ (c j x hx)
 ·rw [uc e] at hp;obtain ⟨a,b,c⟩:=h i p hp;have D:=C p (zv hp);refine ⟨B _ om _ a,B _ om _ b,λj x hx=> ?_⟩;have hj:j<256:=by have:=(zy.1 hx).1;rw [AG,D] at this;exact this
  exact B _ om _ (c j x hx)
def S9 (bb x:Nat) (v:Int) (w:World):Prop:=w.cell? (xK bb x)=some (.int .u8 v)
def iJ (ga ca bb bo bc:Nat) (PS:List Pg) (B perm:Int) (L:List Int) (w:World) (ha:0<PS.length->aa=some (xK ga 0)) (hA:Bs w ga PS) (b3:∀i,w.frozen? (xK ga i)=false) (hn:PS.length<=100000) (a8:∀q∈PS,q.bytes.length=256) (h0:0<=B) (d1:1<=L.length) (hm:Cf PS B L.length perm=true) (hv:Am w bb bo L) (b5:bb≠ga) (d6:bb<w.heap.size):
  cT 146 #[.slice aa PS.length ca,uV B,sL bb bo L.length bc] w λe w'=>e= .returned (.tuple #[])/\Bs w' ga (CF PS B L L.length)/\(∀i,w'.frozen? (xK ga i)=false)/\w.grownBy w' (some ga):=by
 obtain ⟨c4,E⟩:=UJ h0 om hm;obtain ⟨R,c0,N,HV⟩:=H4 E ha a8 hv;have H0:=AC (xi hA b3);clear E hA ha a8 hm hv b3;go_enter func146,ntmps146;go_wp2
 go_loopw [6] (λi wr=>∃j:Nat,j<=L.length/\i= iV j/\Hid (Bs wr ga (CF PS B L j)/\(∀i,wr.frozen? (xK ga i)=false))/\Hid (w.grownBy wr (some ga))) (λi _=>L.length-(intOf i).toNat)
 case atStart=>exact ⟨0,om,rfl,H0,AC (zj _ _)⟩
 case round=>
  obtain ⟨j,hj,rfl,HR,HG⟩:=hrel;by_cases c3:j<L.length
  ·obtain ⟨k,q,hk,Z,hf⟩:=QV (AB R (j:Int) om om);have d8:=(zy.1 Z).1;obtain rfl:=AB c0 om;have V:=Fr PS B L j;obtain ⟨p,hp,c9,c6,a6⟩:=JC V Z;have b4:p.bytes.length=256:=by rw [a6];exact AB N q (zv Z)
   have E:∀p∈CF PS B L j,p.bytes.length=256:=λp' c2=>by
    obtain ⟨i,hi,c5⟩:=sk.1 c2;obtain ⟨q',c8,_,_,e⟩:=JC V.symm (show (CF PS B L j)[i]? =some p' by rw [zz hi,c5]);rw [<-e];exact AB N q' (zv c8)
   obtain ⟨X,hX⟩:∃X:Nat,(X:Int)=B+(j:Int):=⟨(B+j).toNat,om⟩;obtain ⟨M,hM⟩:∃M:Nat,(M:Int)=(X:Int)%256:=⟨X%256,om⟩;have a1:Kw (CF PS B L j) ((X:Int)/256)=k:=by rw [Yv V,hX];exact hk
   have a7:(CF PS B L j).length=PS.length:=Ke V;have HF:=AC (QO (some (xK ga 0)) ga ca (CF PS B L j) ((X:Int)/256) wr (λ_=>rfl) HR.1 om);rw [a1,a7] at HF;obtain ⟨bv,a2⟩:=xE (L.getD j 0)
   have b2:CF PS B L (j+1)=(CF PS B L j).set k ⟨p.num,p.perm,p.bytes.set M bv⟩:=by
    rw [a2];exact lW (x:=B+(j:Int)) (by rw [<-hX];exact a1) hp (by rw [hM,hX])
   have b6:wr.cell? (xK bb (bo+j))=some (.int .u8 bv):=by rw [a2];exact HG.cell (AB HV j c3) (sU b5)
   have b8:cE wr ga (k*258+2+M) (.int .u8 (p.bytes.getD M 0)):=(HR.1 k p hp).2.2 M _ (AN _ _ om);have y1:IntKind.i64.wrap (X:Int)=(X:Int):=by rw [yg]<;>omega
   have y2:(X:Int).tdiv 256=(X:Int)/256:=tj om;have y4:IntKind.i64.wrap ((X:Int)/256)=(X:Int)/256:=by rw [yg]<;>omega
   have a0:B+(j:Int)=(X:Int):=hX.symm;have d0:(X:Int)<=65535:=om;have f0:B<=65535:=om;have HX:=AC (show CF PS B L (j+1)=(CF PS B L j).set k ⟨p.num,p.perm,p.bytes.set M bv⟩/\(CF PS B L j)[k]? =some p/\p.bytes.length=256/\(∀p∈CF PS B L j,p.bytes.length=256)/\M<256/\(X:Int).tmod 256=(M:Int) from ⟨b2,hp,b4,E,om,by rw [hM];exact yi om⟩);have HC:=AC (xi b6 b8);have d4:(0:Int)<=(k:Int):=om;have d7:(k:Int)<(PS.length:Int):=om;clear V hp c9 c6 a6 b4 E hX hM a1 a7 b2 b6 b8 hk Z hf a2
   go_wp2_with fail
   refine HF.mono ?_;rintro e w1 ⟨rfl,G,D⟩;have hx:=AB HX;have C:Bw wr w1.drew:=⟨D.os,D.tape,D.output,D.size,D.block⟩;have F:w1.drew.heap=wr.heap:=G;have I:S9 bb (bo+j) bv w1:=by unfold S9 World.cell?;rw [G];exact HC.1
   have J:(Instr.storeAt 5 (qP ga (k*258+2+M)) (.int .u8 bv)).run prog w1.drew= .ok () (w1.drew.setCell (xK ga (k*258+2+M)) (.int .u8 bv)):=by
    have c:w1.drew.cell? (xK ga (k*258+2+M))=some (.int .u8 (p.bytes.getD M 0)):=by unfold World.cell?;rw [F];exact HC.2
    have f:w1.drew.frozen? (xK ga (k*258+2+M))=false:=by unfold World.frozen?;rw [F];exact HR.2 (k*258+2+M)
    clear I C F hx G D HX HC HR HG HV N R HF;go_simp
   obtain ⟨wn,H⟩:=xE (w1.drew.setCell (xK ga (k*258+2+M)) (.int .u8 bv));rw [<-H] at J;have O:w.grownBy w1.drew (some ga):=⟨C.os.trans HG.os,C.tape.trans HG.tape,C.output.trans HG.output,zg HG.size C.size,λi hi c1=>(C.block i (o1 HG.size)).trans (HG.block i hi c1)⟩
   have HN:=AC (show (Bs wn ga (CF PS B L (j+1))/\(∀i,wn.frozen? (xK ga i)=false))/\w.grownBy wn (some ga) from by
    rw [H,hx.1];refine ⟨⟨Bs.poke (HR.1.heap F) hx.2.1 (by rw [hx.2.2.1];exact hx.2.2.2.2.1) hx.2.2.1 hx.2.2.2.1 bv,λi=> ?_⟩,AI O _ _⟩;have f:w1.drew.frozen? (xK ga i)=false:=by unfold World.frozen?;rw [F];exact HR.2 i
    simpa using f)
   have T:S9 bb (bo+j) bv wn:=by
    rw [H];exact (AI (zj w1.drew (some ga)) (k*258+2+M) (.int .u8 bv)).cell (show w1.drew.cell? (xK bb (bo+j))=some (.int .u8 bv) from I) (sU b5)
   have a3:=hx.2.2.2.2.2;have d9:(0:Int)<=(M:Int):=om;have d5:(M:Int)<256:=o1 hx.2.2.2.2.1;have d2:(0:Int)<=(j:Int):=om;have d3:(j:Int)<(L.length:Int):=om
   have RB:=AC (show ∀w':World,S9 bb (bo+j) bv w'->(Instr.loadAt 5 (qP bb (bo+j))).run prog w'= .ok (.int .u8 bv) w' from λw' c=>by
    unfold S9 at c;clear I T C F hx G D HX HC HR HG HV N R HF J HN O H
    go_simp)
   have RD:=AC (show ∀w':World,((do eqGuard .rem 3 (.tmp 25) (.const (iV 256)) (iV (X:Int)) (iV 256);binOp .rem 3 (iV (X:Int)) (iV 256):Sem Value)).run prog w'= .ok (iV (M:Int)) w' from λw'=>by
    clear I T C F hx G D HX HC HR HG HV N R HF J HN O H RB a0
    go_simp)
   have RI:=AC (show ∀w':World,(Instr.indexAt 75 (sL ga 0 PS.length ca) (iV (k:Int))).run prog w'= .ok (qP ga (k*258)) w' from λw'=>by
    clear I T C F hx G D HX HC HR HG HV N R HF J HN O H RB RD a0
    go_simp)
   have RJ:=AC (show ∀w':World,(Instr.indexAt 134 (qP ga (k*258+2)) (iV (M:Int))).run prog w'= .ok (qP ga (k*258+2+M)) w' from λw'=>by
    clear I T C F hx G D HX HC HR HG HV N R HF J HN O H RB RD RI a0 a3
    go_simp)
   have RK:=AC (show ∀w':World,(Instr.indexAt 36 (sL bb bo L.length bc) (iV (j:Int))).run prog w'= .ok (qP bb (bo+j)) w' from λw'=>by
    clear I T C F hx G D HX HC HR HG HV N R HF J HN O H RB RD RI RJ a0 a3
    go_simp)
   obtain ⟨a5,b0,b9⟩:=H3 I T J;clear I T J O H C F hx G D a3 HX HC HF
   go_upto_region 5 with fail
   refine Ak ?_;intro A hA;have e0:A.eval (.tmp 0)= sL ga 0 PS.length ca:=eH hA;have e2:A.eval (.tmp 2)= sL bb bo L.length bc:=eH hA;have e6:A.eval (.tmp 6)= iV (j:Int):=eH hA;have e7:A.eval (.tmp 7)= iV (X:Int):=eH hA;have e8:A.eval (.tmp 8)= iV (k:Int):=eH hA;have a4:A.tmps.size=34:=eZ hA;have b1:=AC hA;clear hA;refine xf (S:=S9 bb (bo+j) bv) kf a5 (λhS=> ?_);refine tq 0 23 rfl (yM (sL ga 0 PS.length ca)) hS (tq 1 24 rfl (yM (iV (k:Int))) hS (tq 2 25 rfl (yM (iV (X:Int))) hS (tq 3 26 rfl (La rfl .rem _ _ (.tmp 25) (.const (iV 256)) rfl (iV (X:Int)) (iV 256) sE rfl (iV (M:Int)) RD) hS (tq 4 27 rfl (yM (sL bb bo L.length bc)) hS (tq 5 28 rfl (yM (iV (j:Int))) hS ?_)))));refine tq 6 29 rfl (yI (sL bb bo L.length bc) (iV (j:Int)) (qP bb (bo+j)) RK) hS (tq 7 30 rfl (yl RB) hS ?_)
   refine tq 8 31 rfl (yI (sL ga 0 PS.length ca) (iV (k:Int)) (qP ga (k*258)) RI) hS (tq 9 32 rfl (yF (qP ga (k*258)) (qP ga (k*258+2))) hS (tq 10 33 rfl (yI (qP ga (k*258+2)) (iV (M:Int)) (qP ga (k*258+2+M)) RJ) hS ?_));refine QU ?_;intro A2 Y;have b7:A2.eval (.tmp 33)= qP ga (k*258+2+M):=by rw [Y];simp [Ae,AU,a4,e0,e2,e6,e7,e8,BN]
   have a9:A2.eval (.tmp 30)= .int .u8 bv:=by rw [Y];simp [Ae,AU,a4,e0,e2,e6,e7,e8,BN]
   have U:=AC Y;clear Y;refine rdy [11] kf (vq rfl (λK hK=> ?_) vr);refine Hv rfl _ (.tmp 33) (.tmp 30) rfl (xK ga (k*258+2+M)) (.int .u8 bv) b7 a9 b9 rfl ?_;refine hK.out _ _ b0 (λ_=> ?_);clear hK K;refine vg kf ?_ _;rw [AB U,AB b1];simp only [Act.put,zl,zh,zi];clear RB RD RI RJ RK a5 b0 b9 b1 U b7 a9 e0 e2 e6 e7 e8 a4 hS HR HG;go_wp2;exact ⟨⟨j+1,om,sI,AC HN.1,AC HN.2⟩,by simp only [intOf];omega⟩
  ·have c7:j=L.length:=om;subst c7;go_wp2;go_end0;exact ⟨rfl,HR.1,HR.2,AB HG⟩
def isZ:Value->Bool
 | .int .u8 0=>true
 |_=>false
def iQ:List Value->Bool
 |[]=>true
 |v::r=>match isZ v with|true=>iQ r|false=>false
def nX {v:Value} (h:isZ v=true):v= .int .u8 0:=by
 unfold isZ at h;split at h
 ·rfl
 ·cases h
def Qc:∀(l:List Value),iQ l=true->l=List.replicate l.length (.int .u8 0)
 |[],_=>rfl
 |v::r,h=>by
  unfold iQ at h;split at h
  ·rename_i hv
   rw [nX hv,um,ri,<-Qc r h]
  ·cases h
def lY:iQ zeroCells186.toList=true:=kf
def Af:List Value:=List.replicate 65792 (.int .u8 0)
def Qd:zeroCells186=Af.toArray:=by
 have h:=Qc _ lY;have hl:zeroCells186.toList.length=65792:=by rw [xl];exact zeroCells186_size
 rw [hl] at h;unfold Af;rw [<-h]
def OJ {α:Type} {l:List Nat} {f g:Nat->List α} (h:∀a∈l,f a=g a):l.flatMap f=l.flatMap g:=by
 induction l with
 |nil=>rfl
 |cons a r ih=>rw [vi,vi,h a sI,ih (λb hb=>h b (by simp [hb]))]
def OL (n N:Nat) (h:n<N):List.range N=List.range n++n::List.range' (n+1) (N-n-1):=by
 rw [List.range_eq_range',List.range_eq_range',show N=n+(N-n-1+1) by omega,<-List.range'_append_1,zq,List.range'_succ];congr 3;omega
def MY {α:Type} (f:Nat->List α) (m:Nat):∀(l:List Nat),(∀j∈l,(f j).length=m)->(l.flatMap f).length=l.length*m
 |[],_=>sI
 |a::r,h=>by
  rw [vi,zm,h a sI,MY f m r (λj hj=>h j (by simp [hj])),um,Nat.succ_mul,Nat.add_comm]
def iR {α:Type} (f:Nat->List α) (m N:Nat) (hf:∀j,j<N->(f j).length=m) (j k:Nat) (hj:j<N) (hk:k<m):((List.range N).flatMap f)[j*m+k]? =(f j)[k]? :=by
 rw [OL j N hj,ur,vi];have hl:((List.range j).flatMap f).length=j*m:=by rw [MY f m _ (λi hi=>hf i (o1 (zf.1 hi))),tx]
 rw [zn om,hl,yc,zo (by rw [hf j hj];exact hk)]
def OM {α:Type} (f g:Nat->List α) (m N n:Nat) (r:List α) (hf:∀j,j<N->(f j).length=m) (hr:r.length=m) (hn:n<N) (hg:g n=r) (ho:∀j,j<N->j≠n->g j=f j):splice ((List.range N).flatMap f) (n*m) r=(List.range N).flatMap g:=by
 rw [OL n N hn,ur,vi,ur,vi];have hl:((List.range n).flatMap f).length=n*m:=by rw [MY f m _ (λi hi=>hf i (o1 (zf.1 hi))),tx]
 have e1:(List.range n).flatMap g=(List.range n).flatMap f:=by
  refine OJ (λj hj=>ho j ?_ ?_)<;>have:=zf.1 hj<;>omega
 have e2:(List.range' (n+1) (N-n-1)).flatMap g=(List.range' (n+1) (N-n-1)).flatMap f:=by
  refine OJ (λj hj=>ho j ?_ ?_)<;>have:=List.mem_range'_1.1 hj<;>omega
 rw [e1,e2,hg];unfold splice;rw [List.take_left' hl,hr];congr 2;rw [<-xu,List.drop_left' (by rw [zm,hl,hf n hn])]
def Bi (p:Pg):List Value:= .int .u8 p.perm::AF p.bytes
def iS:List Value:=List.replicate 257 (.int .u8 0)
def Cx (PS:List Pg) (j:Nat):List Value:=match PS.find? (λp=>p.num==(j:Int)) with|some p=>Bi p|none=>iS
def AW (PS:List Pg):List Value:=(List.range 256).flatMap (Cx PS)
structure Bc (PS:List Pg):Prop where
 sorted:PS.Pairwise (λp q=>p.num<q.num)
 each:∀p∈PS,0<=p.num/\p.num<256/\1<=p.perm/\p.perm<=255/\p.bytes.length=256
def Bc.pre (h:Bc (PS++QS)):Bc PS:=⟨(ud.1 h.sorted).1,λp hp=>h.each p (yn _ hp)⟩
def CX (h:p.bytes.length=256):(Bi p).length=257:=by unfold Bi;rw [um,AG,h]
def FC (h:∀p∈PS,p.bytes.length=256) (j:Nat):(Cx PS j).length=257:=by
 unfold Cx;split
 ·rename_i p hp
  exact CX (h p (yk hp))
 ·unfold iS;exact tz
def CM (h:∀p∈PS,p.bytes.length=256):(AW PS).length=65792:=by
 unfold AW;rw [MY _ 257 _ (λj _=>FC h j),tx]
def Qe (z:Value) (m:Nat):∀(l:List Nat),(l.flatMap λ_=>List.replicate m z)=List.replicate (l.length*m) z
 |[]=>sI
 |a::r=>by rw [vi,Qe z m r,um,Nat.succ_mul,Nat.add_comm (r.length*m),List.replicate_append_replicate]
def Kf:AW []=Af:=by
 show (List.range 256).flatMap (λ_=>List.replicate 257 (Value.int .u8 0))=Af;rw [Qe,tx];rfl
def Ik (h:∀p∈PS,p.bytes.length=256) (j k:Nat) (hj:j<256) (hk:k<257):(AW PS)[j*257+k]? =(Cx PS j)[k]? :=iR _ 257 256 (λj _=>FC h j) j k hj hk
def Y0 (h:Bc (PS++[p])) (n:Nat) (hn:p.num=n):splice (AW PS) (n*257) (Bi p)=AW (PS++[p]):=by
 have hp:=h.each p sI;have hb:∀q∈PS,q.bytes.length=256:=λq hq=>(h.each q (by simp [hq])).2.2.2.2;have B:∀q∈PS,q.num<p.num:=λq hq=>(ud.1 h.sorted).2.2 q hq p sI;refine OM _ _ 257 256 n _ (λj _=>FC hb j) (CX hp.2.2.2.2) om ?_ (λj hj C=> ?_)
 ·unfold Cx;rw [re,show PS.find? (λq=>q.num==(n:Int))=none from xm.2 (λq hq=>by have:=B q hq;simp;omega)];simp [hn]
 ·unfold Cx;rw [re]
  cases hf:PS.find? (λq=>q.num==(j:Int)) with
  |some q=>rfl
  |none=>
   have:([p].find? (λq=>q.num==(j:Int)))=none:=xm.2 (λq hq=>by simp at hq;subst hq;simp;omega);rw [this];rfl
def Ee (PS:List Pg) (n:Nat):List Pg:=(List.range n).filterMap (λj:Nat=>PS.find? (λp=>p.num==(j:Int)))
def JE (PS:List Pg) (n:Nat):Ee PS (n+1)=Ee PS n++(PS.find? (λp=>p.num==(n:Int))).toList:=by
 unfold Ee;rw [qf,List.filterMap_append];cases h:PS.find? (λp=>p.num==(n:Int))<;>simp [h]
def Ld {PS:List Pg} (h:Bc PS):∀n:Nat,Ee PS n=PS.filter (λp=>decide (p.num<(n:Int)))
 |0=>by
  unfold Ee;simp only [List.range_zero,List.filterMap_nil]
  symm
  rw [tp];intro p hp;have:=(h.each p hp).1
  simp;omega
 |n+1=>by
  rw [JE,Ld h n];clear Ld;have hs:=h.sorted;have h0:∀p∈PS,0<=p.num:=λp hp=>(h.each p hp).1;clear h
  induction PS with
  |nil=>rfl
  |cons a r ih=>
   obtain ⟨ha,hr⟩:=se.1 hs;have ih:=ih hr (λp hp=>h0 p (by simp [hp]));by_cases B:a.num<(n:Int)
   ·rw [tg (sU B),tg sO,List.find?_cons_of_neg sO,List.cons_append,ih]
   ·have D:∀q∈r,¬q.num<(n:Int):=λq hq=>o1 (ha q hq);by_cases C:a.num=(n:Int)
    ·rw [ua (sU B),tg sO,List.find?_cons_of_pos (sU C)];have e1:r.filter (λp=>decide (p.num<(n:Int)))=[]:=tp.2 (λq hq=>by have:=D q hq;simpa using this);have e2:r.filter (λp=>decide (p.num<((n+1:Nat):Int)))=[]:=tp.2 (λq hq=>by have:=ha q hq;simp;omega);rw [e1,e2];rfl
    ·rw [ua (sU B),ua sO,List.find?_cons_of_neg (sU C)];exact ih
def Kg (h:Bc PS):Ee PS 256=PS:=by
 rw [Ld h];exact qu.2 (λp hp=>by have:=(h.each p hp).2.1;simp;omega)
def Il (PS:List Pg):∀n,(Ee PS n).length<=n
 |0=>by simp [Ee]
 |n+1=>by
  have:=Il PS n;rw [JE,zm];cases h:PS.find? (λp=>p.num==(n:Int))<;>simp<;>omega
def DR (PS:List Pg) (j:Nat):Int:=match PS.find? (λp=>p.num==(j:Int)) with|some p=>p.perm|none=>0
def Qf (PS:List Pg) (j:Nat):(Cx PS j)[0]? =some (.int .u8 (DR PS j)):=by
 unfold Cx DR;split<;>rfl
def Le:∀(l word:List UInt8),∃h t,parts l word=h::t
 |[],word=>⟨word,[],rfl⟩
 |c::r,word=>by
  unfold parts;split
  ·exact ⟨word,parts r [],rfl⟩
  ·exact Le r (word++[c])
def Qi:∀(l u v h:List UInt8) (t:List (List UInt8)),parts l v=h::t->parts l (u++v)=(u++h)::t
 |[],u,v,h,t,e=>by
  have e1:v=h/\[]=t:=by simpa [parts] using e
  obtain ⟨rfl,rfl⟩:=e1
  rfl
 |c::r,u,v,h,t,e=>by
  unfold parts at e ⊢;split
  ·rename_i hc
   rw [vu hc] at e;have e1:v=h/\parts r []=t:=sU e;obtain ⟨rfl,rfl⟩:=e1;rfl
  ·rename_i hc
   rw [vz hc] at e;rw [xu];exact Qi r u (v++[c]) h t e
def OQ:∀l:List UInt8,(47:UInt8)∈l->Lib.indexByte l 47= -1->False
 |[],h,_=>by simp at h
 |b::l,h,hi=>by
  unfold Lib.indexByte at hi;split at hi
  ·exact absurd hi dz
  ·rename_i hb
   split at hi
   ·rename_i h1
    have:(47:UInt8)∈l:=by
     rcases vp.1 h with e|e
     ·exact absurd (by simp [e]) hb
     ·exact e
    exact OQ l this (sU h1)
   ·rename_i h1
    have B:=Lib.indexByte_ge l 47;have:¬Lib.indexByte l 47= -1:=sU h1;omega
def OS:∀l:List UInt8,Lib.splitK [47] 0 (l.count 47) l=parts l []
 |[]=>rfl
 |b::l=>by
  have ih:=OS l;by_cases hb:b=47
  ·subst hb;have hc:List.count (47:UInt8) (47::l)=List.count 47 l+1:=sI;rw [hc];unfold Lib.splitK;have hi:Lib.index (47::l) [47]=0:=by rw [Lib.index_one];simp [Lib.indexByte]
   rw [hi,vz dz];show []::Lib.splitK [47] 0 (List.count 47 l) l=_;rw [ih]
   conv=>rhs;unfold parts
   rw [vu rfl]
  ·have hc:List.count (47:UInt8) (b::l)=List.count 47 l:=List.count_cons_of_ne hb;rw [hc];obtain ⟨h,t,he⟩:=Le l []
   have hp:parts (b::l) []=(b::h)::t:=by
    conv=>lhs;unfold parts
    rw [vz hb];have:=Qi l [b] [] h t he;simpa using this
   rw [hp];rw [he] at ih
   cases hk:List.count (47:UInt8) l with
   |zero=>
    rw [hk] at ih;have e1:l=h/\[]=t:=by simpa [Lib.splitK] using ih
    obtain ⟨rfl,rfl⟩:=e1
    rfl
   |succ k=>
    rw [hk] at ih;unfold Lib.splitK at ih ⊢;have D:=Lib.indexByte_ge l 47;rw [Lib.index_one] at ih
    have C:Lib.index (b::l) [47]=if Lib.indexByte l 47== -1 then -1 else Lib.indexByte l 47+1:=by
     rw [Lib.index_one]
     conv=>lhs;unfold Lib.indexByte
     rw [vz (sU hb)]
    rw [C];split at ih
    ·rename_i h1
     exfalso;have B:Lib.indexByte l 47= -1:=sU h1;have hm:(47:UInt8)∈l:=List.count_pos_iff.1 om;exact OQ l hm B
    ·rename_i h1
     rw [vz h1];have E:¬Lib.indexByte l 47= -1:=sU h1;obtain ⟨i,hi⟩:∃i:Nat,Lib.indexByte l 47=i:=⟨(Lib.indexByte l 47).toNat,om⟩;rw [hi] at ih ⊢;rw [vz sO];have e1:l.take i=h/\Lib.splitK [47] 0 k (l.drop (i+1))=t:=sU ih;obtain ⟨rfl,rfl⟩:=e1;have e2:((i:Int)+1).toNat=i+1:=om;rw [e2];rfl
def Y2 (b:ByteArray):JX b.data.toList=b:=by
 cases b;simp [JX]
def Vz (h0:s.data.toList[0]? =some 47):Lib.splitB ⟨#[47]⟩ 0 (Lib.countB s ⟨#[47]⟩) s=ByteArray.empty::Ap s:=by
 have h1:=Lib.splitB_data ⟨#[47]⟩ 0 (Lib.countB s ⟨#[47]⟩) s;have h2:Lib.countB s ⟨#[47]⟩=s.data.toList.count 47:=Lib.count_one 47 s.data.toList;rw [h2] at h1 ⊢;have h3:Lib.splitK [47] 0 (s.data.toList.count 47) s.data.toList=parts s.data.toList []:=OS _;have h4:(Lib.splitB ⟨#[47]⟩ 0 (s.data.toList.count 47) s).map (·.data.toList)=parts s.data.toList []:=h1.trans h3;have h5:=congrArg (List.map JX) h4;rw [rx,show JX∘(λb:ByteArray=>b.data.toList)=id from by funext b;exact Y2 b,List.map_id] at h5;rw [h5];unfold Ap
 cases hl:s.data.toList with
 |nil=>rw [hl] at h0;cases h0
 |cons c r=>
  rw [hl] at h0;obtain rfl:c=47:=sU h0
  conv=>lhs;unfold parts
  rw [vu rfl];rfl
def Ju:∀(l word:List UInt8),(∀c∈word,c≠47)->∀p∈parts l word,∀c∈p,c≠47
 |[],word,h,p,hp,c,hc=>by
  have:p=word:=by simpa [parts] using hp
  subst this
  exact h c hc
 |d::r,word,h,p,hp,c,hc=>by
  unfold parts at hp;split at hp
  ·rcases vp.1 hp with rfl|hp
   ·exact h c hc
   ·exact Ju r [] sI p hp c hc
  ·rename_i hd
   refine Ju r (word++[d]) (λx hx=> ?_) p hp c hc;rcases vo.1 hx with h1|h1
   ·exact h x h1
   ·have:x=d:=sU h1;subst this;exact hd
def Ki (s:ByteArray):Bool:=decide (1<=s.size)&&decide (s.size<=14)&& !(s.toList==[46])&& !(s.toList==[46,46])&&decide (Lib.indexByte s.data.toList 0<0)
def Qj:∀l:List UInt8,decide (Lib.indexByte l 0<0)=l.all (λc=>c !=0)
 |[]=>rfl
 |b::l=>by
  have ih:=Qj l;have B:=Lib.indexByte_ge l 0;unfold Lib.indexByte;rw [List.all_cons,<-ih];by_cases hb:b=0
  ·subst hb;rfl
  ·rw [vz (sU hb)];have e:(b !=0)=true:=sU hb;rw [e,Bool.true_and];split
   ·rename_i h1
    have:Lib.indexByte l 0= -1:=sU h1;rw [this]
   ·rename_i h1
    have:¬Lib.indexByte l 0= -1:=sU h1;exact decide_eq_decide.2 om
def Y3 (h:∀c∈s.data.toList,c≠47):Ki s=Ba s:=by
 unfold Ki Ba KZ;rw [Qj];congr 1;apply Bool.eq_iff_iff.2;simp only [za,ug,bne_iff_ne];exact ⟨λh1 c hc=>⟨h1 c hc,h c hc⟩,λh1 c hc=>(h1 c hc).1⟩
def V0 {p:ByteArray} (h:p∈Ap s):Ki p=Ba p:=by
 refine Y3 (λc hc=> ?_);obtain ⟨q,hq,rfl⟩:=yt.1 h;exact Ju _ [] sI q hq c (by simpa [JX] using hc)
def UN (s:ByteArray) (w:World) (hs:s.size<=maxLen):cT 169 #[.string s] w λe w'=>e= .returned (.bool (Ki s))/\w'=w:=by
 have HX:Hid (cT 175 #[.string s,.int .u8 0] w λe w'=>e= .returned (iV (Lib.indexByte s.data.toList 0))/\w'=w):=Go.Proofs.Any.strings_IndexByte indexByte s 0 w;unfold Ki;obtain ⟨I,hI⟩:=xE (Lib.indexByte s.data.toList 0);rw [<-hI] at HX ⊢;clear hI;have B:(s.size:Int)<=9223372036854775807:=by unfold maxLen at hs;omega
 by_cases h1:1<=s.size
 case neg=>
  have e1:decide (1<=s.size)=false:=vf h1;have e2:¬(1:Int)<=(s.size:Int):=om;rw [e1];clear h1 hs e1;go_enter func169,ntmps169;go_wp2;go_ret;exact ⟨rfl,rfl⟩
 have e1:decide (1<=s.size)=true:=ve h1;have i1:(1:Int)<=(s.size:Int):=om;by_cases h2:s.size<=14
 case neg=>
  have e2:decide (s.size<=14)=false:=vf h2;have i2:¬(s.size:Int)<=14:=om;rw [e1,e2];clear h1 h2 hs e1 e2;go_enter func169,ntmps169;go_wp2;go_ret;exact ⟨rfl,rfl⟩
 have e2:decide (s.size<=14)=true:=ve h2;have i2:(s.size:Int)<=14:=om;rw [e1,e2]
 cases h3:(s.toList==[46]) with
 |true=>
  clear h1 h2 hs e1 e2;go_enter func169,ntmps169;go_wp2;go_ret
  exact ⟨rfl,rfl⟩
 |false=>
  cases h4:(s.toList==[46,46]) with
  |true=>
   clear h1 h2 hs e1 e2;go_enter func169,ntmps169;go_wp2;go_ret
   exact ⟨rfl,rfl⟩
  |false=>
   clear h1 h2 hs e1 e2;go_enter func169,ntmps169
   go_wp2_with fail
   refine HX.mono ?_;rintro e w' ⟨rfl,rfl⟩;go_wp2;go_ret;exact ⟨rfl,rfl⟩
def V1 (s:ByteArray) (w:World) (e:Ending) (w':World):Prop:=
 Bw w w'/\(Al s=none/\e= .returned (.tuple #[sN,.iface 40 (iV 8)])\/∃l,Al s=some l/\l.length<=100/\e= .returned (.tuple #[sL w.heap.size 0 (l.length+1) (l.length+1),.nilIface])/\AE w' w.heap.size 9 (Cq (ByteArray.empty::l)))
def UO (l:List UInt8):Lib.hasPrefix l [47]=(l[0]? ==some 47):=by
 cases l with
 |nil=>rfl
 |cons c r=>
  show [47].isPrefixOf (c::r)=_;by_cases h:c=47
  ·subst h;simp
  ·have e:((47:UInt8)==c)=false:=by
    rw [qk];intro e;exact h e.symm
   have e2:((c::r)[0]? ==some 47)=false:=by
    rw [qk];intro e;exact h (zr e)
   rw [e2];simp [List.isPrefixOf,e]
def Jv:∀(l word:List UInt8),(parts l word).length<=l.length+1
 |[],word=>by simp [parts]
 |c::r,word=>by
  unfold parts;split
  ·have:=Jv r [];simp;omega
  ·have:=Jv r (word++[c]);simp;omega
def V2 (h:s.size<=60):(Ap s).length<=100:=by
 unfold Ap;rw [zc];have:=Jv (s.data.toList.drop 1) [];have h2:s.data.toList.length=s.size:=xl;have h3:=sx (l:=s.data.toList) (i:=1);omega
def JG:∀(l word p:List UInt8),p∈parts l word->p.length<=l.length+word.length
 |[],word,p,h=>by
  have:p=word:=by simpa [parts] using h
  subst this;simp
 |c::r,word,p,h=>by
  unfold parts at h;split at h
  ·rcases vp.1 h with rfl|h
   ·rw [um];omega
   ·have:=JG r [] p h;rw [List.length_nil] at this;rw [um];omega
  ·have:=JG r (word++[c]) p h;simp at this ⊢;omega
def dq {q:ByteArray} (h:s.size<=60) (hq:q∈Ap s):q.size<=maxLen:=by
 obtain ⟨p,hp,rfl⟩:=yt.1 hq;have h1:=JG _ [] p hp;have h2:s.data.toList.length=s.size:=xl;have h4:(JX p).size=p.length:=by simp [JX,ByteArray.size]
 unfold maxLen;simp at h1;omega
def V3 (s:ByteArray) (m:Int) (w:World) (hs:s.size<=maxLen) (hm:cE w 3 0 (iV m)):cT 119 #[.string s] w (V1 s w):=by
 have B:Hid (cT 167 #[.string s,.string ⟨#[47]⟩] w λe w'=>e= .returned (.bool (Lib.hasPrefix s.data.toList [47]))/\w'=w):=Go.Proofs.Any.strings_HasPrefix hasPrefix s ⟨#[47]⟩ w;rw [UO] at B;have a3:(s.size:Int)<=9223372036854775807:=by unfold maxLen at hs;omega
 have U:=AC (zw w.heap.size w);by_cases h1:s.size<=60
 case neg=>
  have HR:=AC (show Al s=none by unfold Al;rw [vu (.inl om)]);have i1:(60:Int)<(s.size:Int):=om;clear h1 hs;go_enter func119,ntmps119;go_wp2
  go_ret2
  exact ⟨AB U,.inl ⟨AB HR,rfl⟩⟩
 have i1:¬(60:Int)<(s.size:Int):=om;by_cases h2:s.data.toList[0]? =some 47
 case neg=>
  have HR:=AC (show Al s=none by unfold Al;rw [vu (.inr (.inr h2))]);have e2:(s.data.toList[0]? ==some 47)=false:=sU h2;rw [e2] at B;clear h1 hs h2 e2;go_enter func119,ntmps119
  go_wp2_with fail
  refine B.mono ?_;rintro e w' ⟨rfl,rfl⟩;go_wp2
  go_ret2
  exact ⟨AB U,.inl ⟨AB HR,rfl⟩⟩
 have e2:(s.data.toList[0]? ==some 47)=true:=sU h2;rw [e2] at B
 have Y:0<s.size:=by
  have h9:=(zy.1 h2).1;have h8:s.data.toList.length=s.size:=xl;omega
 by_cases h5:s.size=1
 ·have HR:=AC (show Al s=some [] by unfold Al;rw [vz (by rintro (h|h|h);omega;omega;exact h h2),vu h5]);have g2:=bE h5 h2;have HN:=AC (AE.new w 9 [.string ByteArray.empty]);have a0:=AC ((zw w.heap.size w).alloc (zx _) (Obj.cells #[.string ByteArray.empty] 9));clear h1 hs h2 e2 h5;go_enter func119,ntmps119
  go_wp2_with fail
  refine B.mono ?_;rintro e w' ⟨rfl,rfl⟩;go_wp2
  go_ret2
  exact ⟨AB a0,.inr ⟨[],AB HR,sI,rfl,AB HN⟩⟩
 have g2:=bG h5;have I:=Vz h2
 have G:=AC (show cT 168 #[.string s,.string ⟨#[47]⟩] w λe w'=>e= .returned (sL w.heap.size 0 ((Ap s).length+1) ((Ap s).length+1))/\w'=w.alloc (.cells (Cq (ByteArray.empty::Ap s)).toArray 9) from by
  have h:=Go.Proofs.Any.strings_Split split kf s ⟨#[47]⟩ m w om hm dz;have hl:=Lib.splitB_all ⟨#[47]⟩ dz 0 _ s rfl;rw [I] at hl;have Z:(Ap s).length+1=Lib.countB s ⟨#[47]⟩+1:=hl;rw [I,<-Z] at h
  exact h)
 have T:Hid (∀q∈Ap s,Ki q=Ba q):=λq hq=>V0 hq;have J:=V2 h1;have F:=AC (show Al s=if (Ap s).all Ba=true then some (Ap s) else none by unfold Al;rw [vz (by rintro (h|h|h);omega;omega;exact h h2),vz h5]);have O:Hid (∀q∈Ap s,q.size<=maxLen):=λq hq=>dq h1 hq
 have X:0<(Ap s).length:=by
  obtain ⟨h,t,he⟩:=Le (s.data.toList.drop 1) [];unfold Ap;rw [he];simp
 obtain ⟨L,hL⟩:=xE (Ap s);rw [<-hL] at G T F O J X;obtain ⟨W1,E⟩:=xE (w.alloc (.cells (Cq (ByteArray.empty::L)).toArray 9));rw [<-E] at G;have N:=AC (show AE W1 w.heap.size 9 (Cq (ByteArray.empty::L)) from by rw [E];exact AE.new w 9 _);have R:=AC (show Bw w W1 from by rw [E];exact bA);clear h1 hs h2 e2 h5 I hL E;go_enter func119,ntmps119
 go_wp2_with fail
 refine B.mono ?_;rintro e w' ⟨rfl,rfl⟩
 go_wp2_with fail
 refine G.mono ?_;rintro e w2 ⟨rfl,rfl⟩;have k1:(1:Int)<=(L.length:Int)+1:=om;have k2:L.length≠0:=om;go_wp2
 go_loop [24] (λi=>∃k:Nat,k<=L.length/\i= iV k/\Hid (∀j q,j<k->L[j]? =some q->Ba q=true)) (λi=>L.length-(intOf i).toNat)
 case atStart=>exact ⟨0,om,rfl,AC (λj q hj=>om)⟩
 case round=>
  obtain ⟨k,hk,rfl,HA⟩:=hrel;by_cases V:k<L.length
  ·obtain ⟨q,hq⟩:∃q,L[k]? =some q:=⟨_,zz V⟩;have c0:w2.cell? (xK w'.heap.size (1+k))=some (.string q):=N.cell (by rw [Nat.add_comm];show (Cq L)[k]? =_;simp [Cq,hq]);have D:=zv hq;have C:=AC (UN q w2 (AB O q D));rw [AB T q D] at C;have a2:(0:Int)<=(k:Int):=om;have a1:(k:Int)<(L.length:Int):=om
   cases hb:Ba q with
   |false=>
    rw [hb] at C
    have HR:=AC (show Al s=none by
     rw [AB F,vz];intro H;have:=za.1 H q D;rw [hb] at this
     cases this)
    clear hq D hb
    go_wp2_with fail
    refine C.mono ?_;rintro e w3 ⟨rfl,rfl⟩;go_wp2
    go_ret2
    exact ⟨AB R,.inl ⟨AB HR,rfl⟩⟩
   |true=>
    rw [hb] at C
    have HN:Hid (∀j q,j<k+1->L[j]? =some q->Ba q=true):=AC (λj p hj hp=>by
     rcases sj.1 hj with h|h
     ·exact AB HA j p h hp
     ·subst h;rw [hq] at hp;obtain rfl:=zr hp
      exact hb)
    clear hq D hb
    go_wp2_with fail
    refine C.mono ?_;rintro e w3 ⟨rfl,rfl⟩;go_wp2
    go_round
    case rel=>exact ⟨k+1,om,by go_num,HN⟩
    case measure=>simp [intOf];omega
  ·have HR:=AC (show Al s=some L by
    rw [AB F,vu];refine za.2 (λq hq=> ?_);obtain ⟨j,hj⟩:=yj.1 hq
    exact AB HA j q (o1 (zy.1 hj).1) hj)
   go_wp2
   go_ret2
   exact ⟨AB R,.inr ⟨L,AB HR,J,rfl,AB N⟩⟩
end Go.Proofs.YtpcjkidgohpeoaaGreatDoor
