import Derived.Test.YtpcjkidgohpeoaaGreatDoorG23
import Derived.Test.YtpcjkidgohpeoaaGreatDoorG22
set_option maxRecDepth 100000
set_option maxHeartbeats 4000000
set_option linter.all false
namespace Go.Proofs.YtpcjkidgohpeoaaGreatDoor
open RowKit Maps Proofs.Tryz
variable {w:World} {PL:List (Int×Nat)}
def Mo (kb pm n cb:Nat) (PL:List (Int×Nat)) (fx:Int×Nat->List Value) (w:World) (hk:cE w kb 9 (.map (some pm))) (a9:cE w kb 6 (qP cb 0)) (b6:kb<w.heap.size) (hm:AZ w pm n PL) (hx:∀x∈PL,x.2<w.heap.size/\IS cb (fx x)/\w.rangeAt x.2 65814 (fx x)):
  cT 163 #[qP kb 0] w λe w'=>e= .returned (.map (some w.heap.size))/\Jb w' w.heap.size/\Bw w w':=by
 obtain ⟨W1,G⟩:=xE (w.alloc (.map #[] 0));have B:Bw w W1:=by rw [G];exact bA
 have O:W1.heap.size=w.heap.size+1:=by rw [G];simp
 have F:Jb W1 w.heap.size:=⟨0,by rw [G];exact heap_alloc_new w _⟩;obtain ⟨_,hs,_,D,b3,h4,h5⟩:AZ W1 pm n PL:=hm.kept (BE B) sI;have k9:W1.cell? (xK kb 9)=some (.map (some pm)):=by rw [B.cell (p:=(xK kb 9)) b6];exact hk
 have HS:=AC hs;have H4:=AC h4;have H5:=AC h5;have HX:=AC hx;have d6:=AC a9;have d7:=AC b3;have c8:=AC F;have b4:=AC B;have d3:=AC G;have a4:=AC O;have d5:= @run_makeMap prog;clear hx hm b3 hs h4 h5 F B hk a9 G O;go_enter func163,ntmps163
 go_upto_region 2 with fail
 rw [<-AB d3];clear d5
 go_wp2_with (first|(at_range;refine wpList_range_own _ rfl _ 104 rfl 3 102 EP underlying104 Bp pm n D rfl d7 ?_;intro w0 M E c7)|go_in)
 have c1:=AC M;have U:Bw W1 w0:=⟨E.os,E.tape,E.output,E.size,λk hk=>E.block k hk sI⟩;have d0:=AC (b4.trans (U.mono b4.size));have c2:=AC (c8.below (by rw [AB a4];omega) U);have c3:=AC (show W1.heap.size<w0.heap.size from om);clear M E c7 k9 U
 go_frame
 go_loopw [5] (λ_ wr=>∃(left:Lit->Bool) (Z:Nat),Hid (wr.ranges prog 3 Bp pm W1.heap.size n D left Z)/\Hid (∀kl,left kl=true->Maps.has D kl=true)/\Hid (Jb wr w.heap.size)/\Hid (Bw w wr)/\Hid (W1.heap.size<wr.heap.size)) (λ_ wr=>wr.rangeLeft pm W1.heap.size)
 case atStart=>exact ⟨_,_,c1,AC (λkl h=>h),c2,d0,c3⟩
 case round=>
  obtain ⟨left,Z,b5,b2,a8,HB,d2⟩:=hrel
  go_wp2_with (first
   |(at_next;refine wpList_next_ranges _ rfl _ rfl 3 EP Bp (Value.int .i64) BF ZB UW pm W1.heap.size n D left Z rfl b5 ?_ ?_)
   |go_in)
  ·intro d9 d8;go_wp2;go_ret;exact ⟨rfl,AB a8,AB HB⟩
  ·intro x c kl y1 y2 w1 c9 I a5 hv b7 J a7 C O a1;obtain ⟨z,hz,H⟩:=AB H5 kl (AB b2 kl a5);obtain rfl:=be I H;subst H;obtain rfl:=Wx hv (show y1=DT (some z.2) by rw [<-b7 .nil,AB H4 z.1,DJ (AB HS) hz]);obtain ⟨b1,V,N⟩:=AB HX z hz;obtain ⟨pb,a3⟩:=xE z.2;obtain ⟨xs,b8⟩:=xE (fx z);rw [<-a3] at b1 N a1 ⊢;rw [<-b8] at V N;have a0:=AC V;have d4:=AB a4;have a2:=AB d2;have B:Bw w w1:=HB.trans ⟨C.os,C.tape,C.output,C.size,λk hk=>C.block k (o1 HB.size) sO⟩
   have F:Jb w1 w.heap.size:=by
    obtain ⟨ck,c5⟩:=AB a8;exact ⟨ck,by rw [C.block w.heap.size om sO];exact c5⟩
   have c0:w1.rangeAt pb 65814 xs:=λj v hv=>by rw [B.cell (p:=(xK pb (65814+j))) b1];exact N j v hv
   have k6:w1.cell? (xK kb 6)=some (qP cb 0):=by rw [B.cell (p:=(xK kb 6)) b6];exact AB d6
   have c4:=AC c0;have L:=AC J;have b9:=AC (xi F B);have Y:=AC (show W1.heap.size<w1.heap.size from o1 C.size);have c6:=AC a7;clear I a5 hv b7 J a7 C O B F c0 d4 a2 hz V N a3 b8;unfold BF at a1 ⊢
   go_wp2_with (refine te rfl 191 _ rfl pb 65814 (by rfl) _ _ (AB c4) underlying191 rfl (by rw [Ph,a0.1]) ?_)
   clear a1;have R:=AC (b5.left_eq)
   go_loopw [22] (λi wi=>∃k:Nat,k<=8/\i= iV k/\wi=w1) (λi _=>8-(intOf i).toNat)
   case atStart=>exact ⟨0,om,rfl,rfl⟩
   case round=>
    obtain ⟨k,hk,rfl,rfl⟩:=hrel;have ce:=nz cb;by_cases d1:k<8
    ·have a6:=a0.1;have ix:=Wn xs k om a6;obtain ⟨x,T⟩:=xE (xs.getD k .nilIface)
     have b0:x=Ef cb\/x= .nilIface:=by
      refine a0.2 x ?_;rw [T,zk,zz om];exact rp _
     rw [<-T] at ix;have X:(k:Int)<8:=om;clear T a6 d1;unfold Ef at b0;rcases b0 with rfl|rfl
     ·go_wp2;exact ⟨⟨k+1,om,sI,trivial⟩,by simp only [intOf];omega⟩
     ·go_wp2;exact ⟨⟨k+1,om,sI,trivial⟩,by simp only [intOf];omega⟩
    ·have X:¬(k:Int)<8:=om;go_wp2;refine ⟨⟨_,_,L,AC (λkl h=> ?_),AC b9.1,AC b9.2,Y⟩,?_⟩
     ·have:=(ug _ _▸h:left kl=true/\_);exact AB b2 kl this.1
     ·rw [L.left_eq,AB R];have:=AB c6;omega
def jO {P:Program} {ops:Array Oper} {o:Oper} {a:Act} {K:Act->World->Prop} {Q:Exit->Act->World->Prop} {E:Prop} (D:o.guard=none) (t:Nat) (ts:Array TypeId) (ho:o.op= .call {callee:= .builtin .len,args:=#[.tmp t],argTypes:=ts}) (v:Value) (hx:a.eval (.tmp t)=v) (r:Value) (B:(Builtin.len_ ts o.type #[v]).run P w= .ok r w) (d:Option Tmp) (hd:o.dst=d) (h:K (a.put d r) w):
  if Region.wanted o (yielded ops a.tmps)=true then Oper.wp P o a w K Q else E:=by
 have hw:Region.wanted o (yielded ops a.tmps)=true:=by simp [Region.wanted,D]
 have C:a.tmps[t]?.getD undef=v:=by rw [<-hx];simp [go_sem]
 rw [vu hw];subst hd;unfold Oper.wp;simp [execOp,ho,C,invoke,resolve,go_sem,B,Result.andThen];simpa [go_sem] using h
def Us:eN 163:=enters_of func163 kf rfl
def XF:eN 164:=enters_of func164 kf rfl
def XG:eN 165:=enters_of func165 kf rfl
def Pm:(prog.info? 23).map (·.size)=some 5:=kf
def ef (a b c d e:Int) (w:World):(Instr.build 23 #[(0,iV a),(1,iV b),(2,iV c),(3,iV d),(4,iV e)]).run prog w= .ok (.agg (BK a b c d e).toArray) w:=kf
def RE (a b c d e:Int):∀v∈BK a b c d e,v.oneCell'=true:=by
 intro v hv;simp only [BK,vp,uu,or_false] at hv;rcases hv with rfl|rfl|rfl|rfl|rfl<;>rfl
def eh {m:Nat} (h:Jb w m) (ty:TypeId):(Builtin.len_ #[316] ty #[.map (some m)]).run prog w= .ok (iV 0) w:=by
 obtain ⟨c,hc⟩:=h;exact run_len_map w 316 ty m #[] c kf hc
def JN.below {w':World} {ln:Int×Nat->Nat} (h:JN w PL ln) (hb:Bw w w'):JN w' PL ln:=by
 intro x hx;obtain ⟨h1,PS,h2,h3,h4,h5⟩:=h x hx;exact ⟨o1 hb.size,PS,h2.below hb h1,h3,h4,h5⟩
def ZY (kb pm n cb tb ab:Nat) (li lb ni B:Int) (C:List Value) (PL:List (Int×Nat)) (ln:Int×Nat->Nat) (fx:Int×Nat->List Value) (w:World) (hk:AE w kb 110 C) (y9:C[9]? =some (.map (some pm))) (y5:C[5]? =some (qP tb 0)) (y6:C[6]? =some (qP cb 0)) (hm:AZ w pm n PL) (hp:JN w PL ln) (hn:(PL.map ln).sum<=1000000) (hx:∀x∈PL,IS cb (fx x)/\w.rangeAt x.2 65814 (fx x)) (ht:AE w tb 173 [qP ab 0,iV ni,iV li,iV B,iV lb]):
  cT 115 #[qP kb 0] w λe w'=>e= .returned (.agg (BK (PL.length:Nat) ((PL.map ln).sum:Nat) 0 ni B).toArray)/\Bw w w':=by
 have N:∀x∈PL,x.2<w.heap.size:=λx h=>(hp x h).1;have a6:Hid (∀ww,Bw w ww->cT 132 #[qP kb 0] ww λe w'=>e= .returned (iV ((PL.map ln).sum:Nat))/\Bw ww w'):=λww h=>Om kb pm n PL ln ww ((hk.below h hk.lt).cell y9) (hm.kept (BE h) sI) (hp.below h) hn;have b8:Hid (∀ww,Bw w ww->cT 163 #[qP kb 0] ww λe w'=>e= .returned (.map (some ww.heap.size))/\Jb w' ww.heap.size/\Bw ww w'):=λww h=>Mo kb pm n cb PL fx ww ((hk.below h hk.lt).cell y9) ((hk.below h hk.lt).cell y6) (o2 h.size hk.lt) (hm.kept (BE h) sI) (λx T=>⟨o2 h.size (N x T),(hx x T).1,λj v hv=>by rw [h.cell (p:=(xK x.2 (65814+j))) (N x T)];exact (hx x T).2 j v hv⟩);have c1:Hid (∀ww,Bw w ww->cT 164 #[qP tb 0] ww λe w'=>e= .returned (iV ni)/\w'=ww):=λww h=>UX tb ab ni li B lb ww (ht.below h ht.lt)
 have b2:Hid (∀ww,Bw w ww->cT 165 #[qP tb 0] ww λe w'=>e= .returned (iV B)/\w'=ww):=λww h=>WK tb ab ni li B lb ww (ht.below h ht.lt);have Z:Hid (∀ww,Bw w ww->AE ww kb 110 C/\AZ ww pm n PL):=λww h=>⟨hk.below h hk.lt,hm.kept (BE h) sI⟩
 have R1:=AC (show ∀w':World,(AE w' kb 110 C/\AZ w' pm n PL)->(Instr.loadAt 104 (qP kb 9)).run prog w'= .ok (.map (some pm)) w' from λw' h=>by
  have d:=h.1.cell y9;clear h hk hm hp hx ht y9 y5 y6 N hn
  go_simp)
 have R2:=AC (show ∀w':World,(AE w' kb 110 C/\AZ w' pm n PL)->(Instr.loadAt 93 (qP kb 5)).run prog w'= .ok (qP tb 0) w' from λw' h=>by
  have d:=h.1.cell y5;clear h hk hm hp hx ht y9 y5 y6 N hn
  go_simp)
 obtain ⟨NP,b1⟩:=xE ((PL.map ln).sum);rw [<-b1] at a6 ⊢;obtain ⟨NL,V⟩:=xE PL.length;rw [<-V];have a1:Hid (∀w':World,AZ w' pm n PL->∀ty,(Builtin.len_ #[104] ty #[.map (some pm)]).run prog w'= .ok (iV (NL:Nat)) w'):=λw' h ty=>by rw [V];exact h.len ty
 obtain ⟨W0,U⟩:=xE (w.alloc (.cells (BK 0 0 0 0 0).toArray 23));have R:Bw w W0:=by rw [U];exact bA
 have Y:AE W0 w.heap.size 23 (BK 0 0 0 0 0):=by rw [U];exact AE.new w 23 _
 have b7:w.heap.size<W0.heap.size:=Y.lt;have a4:Bw W0 W0.drew:=⟨rfl,rfl,rfl,zx _,λ_ _=>rfl⟩;have c4:=AC U;have b9:=AC R;have b4:=AC Y;have a5:=AC (R.trans (a4.mono R.size));have c8:kb<w.heap.size:=hk.lt;have J:pm<w.heap.size:=hm.lt;have a0:=AC J;clear hk hm hp hx ht y9 y5 y6 N hn b1 V U R Y a4 J;go_enter func115,ntmps115
 go_upto_region 1 with fail
 have a2:Hid (w.alloc (Obj.cells #[iV 0,iV 0,iV 0,iV 0,iV 0] 23)=W0):=c4.symm;rw [AB a2];obtain ⟨H,hH⟩:=xE w.heap.size;rw [<-hH];refine Ak ?_;intro A hA;have e0:A.eval (.tmp 0)= qP kb 0:=eH hA;have e2:A.eval (.tmp 2)= qP H 0:=eH hA;have c2:A.tmps.size=24:=eZ hA;have HA:=AC hA;clear hA;refine xf (S:=λw'=>AE w' kb 110 C/\AZ w' pm n PL) kf (AB Z _ a5) (λhS=> ?_);refine tq 0 3 rfl (yM (qP kb 0)) hS (tq 1 4 rfl (yN (xK kb 0)) hS (tq 2 5 rfl (yF (qP kb 0) (qP kb 9)) hS (tq 3 6 rfl (yl R1) hS (tq 4 7 rfl (Do rfl _ _ rfl (.map (some pm)) sE (iV (NL:Nat)) (λw' h=>AB a1 w' h.2 _)) hS (tq 5 8 rfl (yM (qP kb 0)) hS ?_)))));refine tq 7 10 rfl (yM (qP kb 0)) hS ?_
 refine tq 10 13 rfl (yM (qP kb 0)) hS (tq 11 14 rfl (yN (xK kb 0)) hS (tq 12 15 rfl (yF (qP kb 0) (qP kb 5)) hS (tq 13 16 rfl (yl R2) hS (tq 15 18 rfl (yM (qP kb 0)) hS (tq 16 19 rfl (yN (xK kb 0)) hS ?_)))));refine tq 17 20 rfl (yF (qP kb 0) (qP kb 5)) hS (tq 18 21 rfl (yl R2) hS ?_);refine rdy [6] kf (vq rfl (λK hK=> ?_) vr);refine DH rfl 132 8 _ rfl (qP kb 0) sE J4 _ (iV (NP:Nat)) (λe w' h=>h.1) (AB a6 _ a5) (some 9) rfl ?_;rintro w1 ⟨_,F⟩;have E:Bw w w1:=b9.trans ((show Bw W0 w1 from ⟨F.os,F.tape,F.output,F.size,F.block⟩).mono om);have I:Bw W0 w1:=⟨F.os,F.tape,F.output,F.size,F.block⟩;refine hK.out _ _ (AB Z _ E) (λc5=> ?_);clear hK K
 refine rdy [8] kf (vq rfl (λK hK=> ?_) vr);refine DH rfl 163 10 _ rfl (qP kb 0) sE Us _ (.map (some w1.heap.size)) (λe w' h=>h.1) (AB b8 _ E) (some 11) rfl ?_;rintro w2 ⟨_,b0,X⟩;have D:Bw w w2:=E.trans (X.mono E.size);have M:Bw W0 w2:=I.trans (X.mono I.size);refine hK.out _ _ (AB Z _ D) (λG=> ?_);clear hK K;refine rdy [9] kf (vq rfl (λK hK=> ?_) vr);refine jO rfl 11 _ rfl (.map (some w1.heap.size)) sE (iV 0) (eh b0 _) (some 12) rfl ?_;refine hK.out _ _ G (λb5=> ?_);clear hK K;refine rdy [14] kf (vq rfl (λK hK=> ?_) vr);refine DH rfl 164 16 _ rfl (qP tb 0) sE XF _ (iV ni) (λe w' h=>h.1) (AB c1 _ D) (some 17) rfl ?_;rintro w3 ⟨_,c0⟩;subst c0;refine hK.out _ _ G (λc3=> ?_);clear hK K
 refine rdy [19] kf (vq rfl (λK hK=> ?_) vr);refine DH rfl 165 21 _ rfl (qP tb 0) sE XG _ (iV B) (λe w' h=>h.1) (AB b2 _ D) (some 22) rfl ?_;rintro w4 ⟨_,b3⟩;subst b3;refine hK.out _ _ G (λb6=> ?_);clear hK K;obtain ⟨LR,L⟩:=xE (BK (NL:Nat) (NP:Nat) 0 ni B);have O:LR.length=5:=by rw [L];rfl
 have a7:∀v∈LR,v.oneCell'=true:=by rw [L];exact RE _ _ _ _ _
 refine tq 20 23 rfl (EF rfl _ _ rfl #[(0,iV (NL:Nat)),(1,iV (NP:Nat)),(2,iV 0),(3,iV ni),(4,iV B)] sE (.agg LR.toArray) (λw'=>by rw [L];exact ef _ _ _ _ _ w')) G ?_;have a9:AE w4 H 23 (BK 0 0 0 0 0):=by rw [hH];exact b4.below M b7
 have a3:(BK 0 0 0 0 0).length=5:=rfl;refine rdy [21] kf (CZ rfl rfl 23 (.tmp 2) (.tmp 23) rfl H 0 LR sE sE 23 (BK 0 0 0 0 0) a9 (by rw [Pm,O]) (by rw [O,a3];omega) a7 rfl (λw5 H5 G5=>⟨⟨G.1.grown (AB G5) sO,G.2.kept (AB G5) (by have:=AB a0;simp;omega)⟩,λc6=> ?_⟩) vr);refine vg kf ?_ _;rw [AB HA];simp only [Act.put,zl,zh,zi];have h5:=AB H5;rw [show splice (BK 0 0 0 0 0) 0 LR=LR by unfold splice;rw [zq,List.take_zero,xt,O,xw (by rw [a3];omega),xr]] at h5;have c7:Hid (Bw w w5):=D.trans (Aa G5 om D.size);have HL:=AC h5;have a8:=AC (xi L O);clear hS c5 G b5 c3 b6 c6 h5 H5 G5 F X E I D M b0 a9 a7 L O HA e0 e2 c2;subst hH;go_wp2
 exact ⟨rfl,.agg LR.toArray,GZ (by rfl) (by rfl) (run_loadVar_mid w5 w.heap.size 0 23 LR _ HL.range underlying23 rfl (by rw [Pm,a8.2])),by rw [a8.1],AB c7⟩
def Oo:(prog.info? 161).map (λi=>(i.zero,i.size,i.bytes))=some (some (.agg Lp.toArray),24,224):=kf
section
open Go.Sort Shelf
structure PD where
 p:AP
 wk:Int
 xs:List Value
 m:Nat
 FR:List Value
structure Kx where
 pa:Option Addr
 ca:Nat
 fa:Option Addr
 fc:Nat
def GF (d:PD) (l:Kx):List Value:=Dg d.p.pid d.p.par d.p.st d.p.su 0 d.p.pc d.p.R (.slice l.pa d.p.PS.length l.ca) (.slice l.fa d.m l.fc)
def El:List PD->List Kx->List Value
 |d::r,l::s=>GF d l++El r s
 |_,_=>[]
def Mt:∀(DL:List PD) (LS:List Kx) (d:PD) (l:Kx),DL.length=LS.length->El (DL++[d]) (LS++[l])=El DL LS++GF d l
 |[],[],d,l,_=>by simp [El]
 |[],b::s,d,l,h=>by simp at h
 |a::r,[],d,l,h=>by simp at h
 |a::r,b::s,d,l,h=>by
  have ih:=Mt r s d l (sU h);show GF a b++El (r++[d]) (s++[l])=GF a b++El r s++GF d l;rw [ih,xu]
def XH:∀(DL:List PD) (LS:List Kx),DL.length=LS.length->(El DL LS).length=DL.length*24
 |[],[],_=>rfl
 |[],b::s,h=>by simp at h
 |a::r,[],h=>by simp at h
 |a::r,b::s,h=>by
  have ih:=XH r s (sU h);unfold El;rw [zm,ih,show (GF a b).length=24 from rfl,um];omega
def jP (w:World) (b:Nat) (d:PD):Prop:=
 AE w b 193 (AX d.p.pc d.p.R (AW d.p.PS) d.p.pid d.p.par d.p.st d.p.su d.wk d.xs)/\d.p.R.length=16/\Bc d.p.PS/\d.p.st≠1/\∀w':World,w'.rangeAt b 65814 d.xs->cT 202 #[qP b 0] w' λe w2=>∃v,e= .returned v/\w2.ownsRow w'.heap.size 252 3 v d.m d.FR/\Bw w' w2
def ei (w:World) (n:Nat) (hn:n<=1000):∃B:Array Value,B.size=n*24/\(Instr.makeSlice 154 (iV 0) (iV n)).run prog w= .ok (sL w.heap.size 0 0 n) (w.alloc (.cells B 161)):=by
 obtain ⟨i,hi,hz,hs,hb⟩:=info_parts Oo;have hr:=run_make (P:=prog) w 154 161 i _ underlying154 hi hz .i64 .i64 0 n om om (by rw [hb];omega) om;rw [hs] at hr;exact ⟨_,by simp [madeCells],hr⟩
structure Iq (w:World) (gs:Nat) (PL:List (Int×Nat)) (DL:List PD) (k:Nat) (v:Value) (wr:World) (LS:List Kx):Prop where
 len:LS.length=k
 row:wr.ownsRow w.heap.size 161 24 v k (El (DL.take k) LS)
 each:∀(j:Nat) (d:PD) (l:Kx),DL[j]? =some d->LS[j]? =some l->wr.ownsRow w.heap.size 164 258 (.slice l.pa d.p.PS.length l.ca) d.p.PS.length (BH d.p.PS)/\wr.ownsRow w.heap.size 252 3 (.slice l.fa d.m l.fc) d.m d.FR
 lt:∀(j:Nat) (l:Kx) (a:Addr),LS[j]? =some l->l.pa=some a\/l.fa=some a->a.block<wr.heap.size
 apart:∀(i j:Nat) (l m:Kx) (a b:Addr),LS[i]? =some l->LS[j]? =some m->l.pa=some a->(i≠j/\m.pa=some b)\/m.fa=some b->a.block≠b.block
 off:∀(j:Nat) (l:Kx) (a:Addr),LS[j]? =some l->l.pa=some a\/l.fa=some a->v.ownBlock≠some a.block
 keys:∀(j:Nat) (x:Int×Nat),PL[j]? =some x->wr.cell? (xK gs j)=some (bX x.2)
 below:Bw w wr
 gsl:gs<wr.heap.size
 form:∃g c,v= sL g 0 k c/\g≠gs
def Iq.step {wr w3 W4 w8:World} {gs:Nat} {DL:List PD} {k g c g8 c8:Nat} {LS:List Kx} {d:PD} {l:Kx} (h:Iq w gs PL DL k (sL g 0 k c) wr LS) (hd:DL[k]? =some d) (T:Bw wr w3) (M:Bw w3 W4) (a2:w3.heap.size<W4.heap.size)
  (N:w3.ownsRow wr.heap.size 164 258 (.slice l.pa d.p.PS.length l.ca) d.p.PS.length (BH d.p.PS)) (O:w3.ownsRow wr.heap.size 252 3 (.slice l.fa d.m l.fc) d.m d.FR) (X:∀a b,l.pa=some a->l.fa=some b->a.block≠b.block)
  (H:w8.ownsRow w.heap.size 161 24 (sL g8 0 (k+1) c8) (k+1) (El (DL.take k) LS++GF d l)) (E:W4.grownBy w8 (some g)) (I:g8=g\/g8=W4.heap.size):Iq w gs PL DL (k+1) (sL g8 0 (k+1) c8) w8 (LS++[l]):=by
 have a3:g<wr.heap.size:=(h.row.lt g rfl).2;have Y:w.heap.size<=g:=(h.row.lt g rfl).1;have R:g≠gs:=by obtain ⟨g',c',e,U⟩:=h.form;injection e with e;injection e with e;injection e with e;rw [e];exact U
 have s3:=T.size;have s8:=E.size;have sw:=h.below.size;have F:∀a,l.pa=some a->wr.heap.size<=a.block/\a.block<w3.heap.size:=λa ha=>N.lt a.block (by rw [ha];rfl);have G:∀a,l.fa=some a->wr.heap.size<=a.block/\a.block<w3.heap.size:=λa ha=>O.lt a.block (by rw [ha];rfl);have D:Bw wr W4:=T.trans (M.mono s3)
 have B:∀(j:Nat) (m:Kx),(LS++[l])[j]? =some m->j<k/\LS[j]? =some m\/j=k/\m=l:=by
  intro j m hm;by_cases hj:j<LS.length
  ·rw [zo hj] at hm;exact .inl ⟨by rw [<-h.len];exact hj,hm⟩
  ·rw [zn om] at hm;have a0:=(zy.1 hm).1;simp at a0;have Z:j-LS.length=0:=om;rw [Z] at hm;exact .inr ⟨by rw [<-h.len];omega,by simpa using hm.symm⟩
 have V:DL.take (k+1)=DL.take k++[d]:=by rw [uw,hd];rfl
 have a1:=(zy.1 hd).1;refine ⟨by rw [zm,h.len];rfl,?_,λj d' m L hm=> ?_,λj m a hm ha=> ?_,λi j m n a b hm hn ha hb=> ?_,λj m a hm ha=> ?_,λj x hx=> ?_,?_,o1 h.gsl,g8,c8,rfl,?_⟩
 ·rw [V,Mt _ _ _ _ (by rw [yr,h.len];omega)];exact H
 ·rcases B j m hm with ⟨hj,C⟩|⟨rfl,rfl⟩
  ·obtain ⟨e1,e2⟩:=h.each j d' m L C;refine ⟨(Aw e1 (AC D)).kept E (.inr (G3 λa ha e=> ?_)),(Aw e2 (AC D)).kept E (.inr (G3 λa ha e=> ?_))⟩
   ·exact h.off j m a C (.inl ha) (by rw [e];rfl)
   ·exact h.off j m a C (.inr ha) (by rw [e];rfl)
  ·rw [hd] at L;obtain rfl:=zr L;refine ⟨(EN (base':=w.heap.size) (Aw N (AC M)) om).kept E (.inr (G3 λa ha=>o1 (F a ha))),(EN (base':=w.heap.size) (Aw O (AC M)) om).kept E (.inr (G3 λa ha=>o1 (G a ha)))⟩
 ·rcases B j m hm with ⟨_,C⟩|⟨_,rfl⟩
  ·have:=h.lt j m a C ha;omega
  ·rcases ha with ha|ha
   ·have:=F a ha;omega
   ·have:=G a ha;omega
 ·rcases B i m hm with ⟨hi,C⟩|⟨rfl,rfl⟩
  ·rcases B j n hn with ⟨hj,J⟩|⟨rfl,rfl⟩
   ·exact h.apart i j m n a b C J ha hb
   ·have h1:=h.lt i m a C (.inl ha);rcases hb with ⟨_,hb⟩|hb
    ·have:=F b hb;omega
    ·have:=G b hb;omega
  ·have h1:=F a ha;rcases B j n hn with ⟨hj,J⟩|⟨rfl,rfl⟩
   ·have h2:=h.lt j n b J (by rcases hb with ⟨_,hb⟩|hb;exact .inl hb;exact .inr hb);omega
   ·rcases hb with ⟨q,_⟩|hb
    ·exact absurd rfl q
    ·exact X a b ha hb
 ·show some g8≠some a.block;intro e;have e:=zr e;rcases B j m hm with ⟨_,C⟩|⟨_,rfl⟩
  ·have h1:=h.lt j m a C ha;rcases I with q|q
   ·exact h.off j m a C ha (by show some g=_;rw [<-q,e])
   ·omega
  ·have h1:wr.heap.size<=a.block/\a.block<w3.heap.size:=by rcases ha with ha|ha;exact F a ha;exact G a ha
   rcases I with q|q<;>omega
 ·have h0:=h.keys j x hx;have h1:W4.cell? (xK gs j)=some (bX x.2):=by rw [D.cell (p:=(xK gs j)) h.gsl];exact h0
  exact E.cell h1 (by simpa using λe=>R e.symm)
 ·exact (h.below.trans (D.mono sw)).trans (Aa E Y om)
 ·rcases I with q|q
  ·rw [q];exact R
  ·have:=h.gsl;omega
end
section
open Go.Sort Shelf
def RF (w:World) (PL:List (Int×Nat)) (DL:List PD) (e:Ending) (w':World):Prop:=∃gs v LS,e= .returned v/\Iq w gs PL DL PL.length v w' LS
def XJ (kb pm n:Nat) (PL:List (Int×Nat)) (DL:List PD) (w:World) (hk:cE w kb 9 (.map (some pm))) (d9:kb<w.heap.size) (hm:AZ w pm n PL) (hp:0<PL.length) (hn:PL.length<=1000) (b4:DL.length=PL.length) (b5:∀(j:Nat) (x:Int×Nat) (d:PD),PL[j]? =some x->DL[j]? =some d->jP w x.2 d):
  cT 112 #[qP kb 0] w (RF w PL DL):=by
 obtain ⟨m,a6⟩:=xE PL.length;obtain ⟨b1,X,c9⟩:=ei w m om;have c4:∀ty,(Builtin.len_ #[104] ty #[.map (some pm)]).run prog w= .ok (iV (m:Nat)) w:=λty=>by rw [a6];exact hm.len ty
 obtain ⟨W1,N⟩:=xE (w.alloc (.cells b1 161));have a1:Bw w W1:=by rw [N];exact bA
 have f6:w.heap.size<W1.heap.size:=by rw [N];simp
 have b6:W1.ownsRow w.heap.size 161 24 (sL w.heap.size 0 0 m) 0 []:=by rw [N];exact World.ownsRow_made w b1 m (zx _) (by unfold maxLen;omega) X
 have b9:=AC (Wj kb pm n PL W1 ((a1.cell (p:=(xK kb 9)) d9).trans hk) om (hm.kept (BE a1) sI) hp hn)
 have d8:=AC (show ∀(j:Nat) (x:Int×Nat) (d:PD),PL[j]? =some x->DL[j]? =some d->∀w',Bw w w'->cT 161 #[qP kb 0,qP x.2 0] w' (Qw d.p.pid d.p.par d.p.st d.p.su d.p.pc d.p.R d.p.PS d.m d.FR w') from λj x d hx hd w' h=>by
  obtain ⟨h1,h2,h3,h4,h5⟩:=b5 j x d hx hd
  exact jD kb x.2 d.p.pc d.p.R d.p.PS d.p.pid d.p.par d.p.st d.p.su d.wk d.xs d.m d.FR w' (h1.below h h1.lt) h2 h3 h4 h5)
 obtain ⟨b7,b2,d7⟩:=H3 a1 b6 N;have G:=AC (xi a6 (xi hp (xi hn b4)));have a4:m<=1000:=om;obtain ⟨ip,b0,L,U,O⟩:=info_parts Oo;have F:=AC (xi b0 (xi L (xi U O)));clear hm a1 b6 N X b0 L U O hp hn b4 b5 a6;go_enter func112,ntmps112
 go_upto_region 2 with fail
 rw [<-AB d7];clear c9 c4 hk
 go_wp2_with fail
 refine b9.mono ?_;rintro e w2 ⟨v2,rfl,Z,a3⟩;rw [<-G.1] at Z;obtain ⟨g2,c2,rfl,f0,J⟩:=Z.form (o1 (AB G));have V:=b7.trans (a3.mono b7.size)
 have C:∀(j:Nat) (x:Int×Nat),PL[j]? =some x->w2.cell? (xK g2 j)=some (bX x.2):=by
  intro j x hx;have f3:=(zy.1 hx).1;have h:=Z.cellAt j (o1 (AB G));rw [h];unfold EY;rw [ze,hx];rfl
 have d0:=AC (show ∃LS,Iq w g2 PL DL 0 (sL w.heap.size 0 0 m) w2 LS from ⟨[],rfl,Aw (AB b2) (AC a3),λj d l _ hl=>by simp at hl,λj l a hl=>by simp at hl,λi j l m a b hl=>by simp at hl,λj l a hl=>by simp at hl,C,V,J,w.heap.size,m,rfl,om⟩);clear Z a3 V f0 J b9 b2 C;go_wp2
 go_loopw [3,15] (λv i wr=>∃k:Nat,k<=m/\i= iV k/\Hid (∃LS,Iq w g2 PL DL k v wr LS)) (λ_ i _=>m-(intOf i).toNat)
 case atStart=>exact ⟨0,om,rfl,d0⟩
 case round=>
  obtain ⟨k,f4,rfl,HL⟩:=hrel;obtain ⟨LS,hL⟩:=AB HL;obtain ⟨g,c,hv,f7⟩:=hL.form;subst hv;by_cases c6:k<m
  ·obtain ⟨x,hx⟩:∃x,PL[k]? =some x:=⟨_,zz (o1 (AB G))⟩;obtain ⟨d,hd⟩:∃d,DL[k]? =some d:=⟨_,zz (o1 (AB G))⟩;have s0:cE wr g2 k (qP x.2 0):=hL.keys k x hx;have b3:=AC (AB d8 k x d hx hd wr hL.below);obtain ⟨pid,pb⟩:=x;have f5:(0:Int)<=(k:Int):=om;have f8:(k:Int)<(m:Int):=om;have HX:=AC (xi hx hd);have a7:=AC hL;clear hx hd hL
   go_wp2_with fail
   refine b3.mono ?_;rintro e w3 ⟨ga,ca,fg,fc,rfl,a0,c1,b8,c0⟩;obtain ⟨AR,M⟩:=xE (GF d ⟨ga,ca,fg,fc⟩);have I:AR.length=24:=by rw [M];rfl
   have T:∀v∈AR,v.oneCell'=true:=by rw [M];exact Oh _ _ _ _ _ _ _ _ _ _ _ _ _
   rw [show Dg d.p.pid d.p.par d.p.st d.p.su 0 d.p.pc d.p.R (.slice ga d.p.PS.length ca) (.slice fg d.m fc)=AR from M.symm];have a9:=a0.size;obtain ⟨W4,Y⟩:=xE (w3.alloc (.cells AR.toArray 161));have a8:Bw w3 W4:=by rw [Y];exact bA
   have a5:AE W4 w3.heap.size 161 AR:=by rw [Y];exact AE.new w3 161 AR
   have E:=a0.trans (a8.mono a9);have HA:=AC (Aw a7.row (AC E));have c3:=AC (Hf (AC a5));have c5:=AC Y;have H:=AC (xi M (xi I T));have hl:w.heap.size<=W4.heap.size:=o2 a7.below.size E.size;have HD:=AC (xi a0 (xi a8 (xi a5.lt (xi c1 (xi b8 c0)))));clear a0 c1 b8 c0 M I T a9 a8 a5 E Y b3
   go_wp2_with (first
    |(refine Dk rfl _ 161 _ rfl AR (by rfl) ip _ underlying154 F.1 F.2.1 (by rw [F.2.2.1,H.2.1]) (by rw [H.2.1];decide) (by rw [H.2.1];decide) ?_;rw [<-AB c5])
    |(at_builtin;refine wpList_append_lies _ (by rfl) _ _ 154 (by rfl) w.heap.size 161 ip _ 24 224 underlying154 F.1 F.2.1 F.2.2.1 F.2.2.2 rfl dz _ k (El (DL.take k) LS) (by rfl) (AB HA) (xK w3.heap.size 0) 1 1 AR (by rfl) (by rw [H.2.1]) (AB c3) H.2.2 om (by unfold maxLen;omega) om om W4.heap.size (by rfl) ?_;intro g8 c8 w8 D B a2 f1))
   have B:W4.grownBy w8 (some g):=B;obtain ⟨d1,d2,d3,d4,d5,d6⟩:=AB HD
   have f2:g8=g\/g8=W4.heap.size:=by
    rcases a2 with h|h
    ·left;have:some g=some g8:=h;simpa using this.symm
    ·exact .inr h
   rw [H.1] at D;exact ⟨⟨k+1,om,sI,AC ⟨LS++[⟨ga,ca,fg,fc⟩],a7.step HX.2 d1 d2 d3 d4 d5 d6 D B f2⟩⟩,by simp [intOf];omega⟩
  ·have c7:k=m:=om;subst c7;have HP:=AC (show RF w PL DL (.returned (sL g 0 k c)) wr from ⟨g2,_,LS,rfl,by rw [<-G.1];exact hL⟩);clear c6 hL;go_wp2;go_ret;exact AB HP
end
end Go.Proofs.YtpcjkidgohpeoaaGreatDoor
