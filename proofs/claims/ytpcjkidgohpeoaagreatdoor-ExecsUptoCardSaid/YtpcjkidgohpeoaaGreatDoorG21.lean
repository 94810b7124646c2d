import Derived.Test.YtpcjkidgohpeoaaGreatDoorG20
import Derived.Test.YtpcjkidgohpeoaaGreatDoorG18
import Derived.Test.YtpcjkidgohpeoaaGreatDoorG19
set_option maxRecDepth 100000
set_option maxHeartbeats 8000000
set_option linter.all false
namespace Go.Proofs.YtpcjkidgohpeoaaGreatDoor
open RowKit Maps Proofs.Tryz
variable {PS:List Pg} (n:Int) (pb so cb o:Nat) (v x0 x1 x2 x3 x4 x5 x6 x7:Value) (w:World)
def Ja (n:Int):List Value:=[iV n,iV 4,iV 0]
def Wk:(Instr.typeAssert (.iface 97 v) 190 415 true).run prog w= .ok (.tuple #[.pointer none,.bool false]) w:=kf
def Wl:(Instr.typeAssert (.iface 97 v) 190 427 true).run prog w= .ok (.tuple #[.pointer none,.bool false]) w:=kf
def Un:(Instr.typeAssert (.iface 97 v) 190 428 true).run prog w= .ok (.tuple #[.pointer none,.bool false]) w:=kf
def ZM:(Instr.typeAssert (.iface 97 v) 190 97 true).run prog w= .ok (.tuple #[v,.bool true]) w:=kf
def Lo:cT 278 #[iV n,Ef cb] w λe w'=>e= .returned (.agg (Ja n).toArray)/\Bw w w':=by
 unfold Ef;have a1:=Wk;have a2:=Wl;have a3:=Un;have a4:=ZM;go_enter func278,ntmps278;go_wp2;refine xh (v:= .agg (Ja n).toArray) (by simp [results,results278,go_sem,Ja]) rfl ⟨rfl,?_⟩;exact ((zw w.heap.size w).alloc (zx _) _).alloc sI _
def GS (n:Nat):List Value:=(List.range n).flatMap (λk:Nat=>Ja (k:Int))
def nh:(prog.info? 252).map (λi=>(i.zero,i.size,i.bytes))=some (some (.agg #[iV 0,iV 0,iV 0]),3,24):=kf
def iz:FJ cb 3=[Ef cb,Ef cb,Ef cb,.nilIface,.nilIface,.nilIface,.nilIface,.nilIface]:=rfl
def Nh:∀u∈Ja n,u.oneCell'=true:=by
 intro u hu;simp only [Ja,vp,uu,or_false] at hu;rcases hu with rfl|rfl|rfl<;>rfl
def nj:(Instr.index 191 (.agg #[x0,x1,x2,x3,x4,x5,x6,x7]) (iV 0)).run prog w= .ok x0 w:=kf
def nk:(Instr.index 191 (.agg #[x0,x1,x2,x3,x4,x5,x6,x7]) (iV 1)).run prog w= .ok x1 w:=kf
def nl:(Instr.index 191 (.agg #[x0,x1,x2,x3,x4,x5,x6,x7]) (iV 2)).run prog w= .ok x2 w:=kf
def nr:(Instr.index 191 (.agg #[x0,x1,x2,x3,x4,x5,x6,x7]) (iV 3)).run prog w= .ok x3 w:=kf
def ns:(Instr.index 191 (.agg #[x0,x1,x2,x3,x4,x5,x6,x7]) (iV 4)).run prog w= .ok x4 w:=kf
def nt:(Instr.index 191 (.agg #[x0,x1,x2,x3,x4,x5,x6,x7]) (iV 5)).run prog w= .ok x5 w:=kf
def nw:(Instr.index 191 (.agg #[x0,x1,x2,x3,x4,x5,x6,x7]) (iV 6)).run prog w= .ok x6 w:=kf
def ny:(Instr.index 191 (.agg #[x0,x1,x2,x3,x4,x5,x6,x7]) (iV 7)).run prog w= .ok x7 w:=kf
def Ph:(prog.info? 191).map (·.size)=some 8:=kf
def Wm (hf:w.rangeAt pb 65814 (FJ cb 3)):
  cT 202 #[qP pb 0] w λe w'=>∃v,e= .returned v/\w'.ownsRow w.heap.size 252 3 v 3 (GS 3)/\Bw w w':=by
 rw [iz] at hf;have HF:=AC hf;obtain ⟨ip,R,J,L,H⟩:=info_parts nh;have E:=AC (xi R (xi J (xi L H)));clear hf R J L H;go_enter func202,ntmps202
 go_wp2_with (refine te rfl 191 _ rfl pb 65814 (by rfl) _ _ (AB HF) underlying191 rfl (by rw [Ph];rfl) ?_)
 go_loopw [3,10] (λv i wr=>∃k:Nat,k<=8/\i= iV k/\Hid (wr.ownsRow w.heap.size 252 3 v (min k 3) (GS (min k 3)))/\Hid (Bw w wr)) (λ_ i _=>8-(intOf i).toNat)
 case atStart=>exact ⟨0,om,rfl,AC (uy _ _ _ _),AC (zw _ _)⟩
 case round=>
  obtain ⟨k,hk,rfl,HO,HB⟩:=hrel;have O:=HB.size
  have G:=AC (show ∀(m:Nat) (w1:World),m<3->m=k->Bw wr w1->w1.ownsRow w.heap.size 252 3 u3 m (GS m) from λm w1 hm U hb=>by
   have h:=Aw HO (AC hb);rw [<-U,show min m 3=m by omega] at h
   exact h)
  have h9:k=0\/k=1\/k=2\/k=3\/k=4\/k=5\/k=6\/k=7\/k=8:=om;rcases h9 with rfl|rfl|rfl|rfl|rfl|rfl|rfl|rfl|rfl
  ·have HT:=AC (Lo 0 cb wr);have ix:=nj;unfold Ef at HT ⊢
   go_wp2_with fail
   refine HT.mono ?_;rintro e w1 ⟨rfl,D⟩;have T:=D.size;have F:Bw wr (w1.alloc (Obj.cells #[iV 0,iV 4,iV 0] 252)):=D.trans ((zw _ _).alloc D.size _);have HA:=AC (AB G 0 _ om rfl F);have M:=AC (HB.trans (F.mono O));unfold Ja;clear D F HT
   go_wp2_with (at_builtin;refine wpList_append_lies _ (by rfl) _ _ 159 (by rfl) w.heap.size 252 ip _ 3 24 underlying159 E.1 E.2.1 E.2.2.1 E.2.2.2 rfl dz u3 0 (GS 0) (by rfl) HA (xK w1.heap.size 0) 1 1 (Ja 0) (by rfl) (by rfl) (bW w1 _ _ _ _) (Nh 0) om (by unfold maxLen;omega) om sO (w1.heap.size+1) sI ?_;intro g8 c8 w8 C B I N)
   refine ⟨⟨1,om,sI,AC C,AC (M.trans ⟨B.os,B.tape,B.output,B.size,λq hq=>B.block q sO (λe=> ?_)⟩)⟩,by simp [intOf]⟩;have:=HA.lt q e.symm;omega
  ·have HT:=AC (Lo 1 cb wr);have ix:=nk;unfold Ef at HT ⊢
   go_wp2_with fail
   refine HT.mono ?_;rintro e w1 ⟨rfl,D⟩;have T:=D.size;have F:Bw wr (w1.alloc (Obj.cells #[iV 1,iV 4,iV 0] 252)):=D.trans ((zw _ _).alloc D.size _);have HA:=AC (AB G 1 _ om rfl F);have M:=AC (HB.trans (F.mono O));unfold Ja;clear D F HT
   go_wp2_with (at_builtin;refine wpList_append_lies _ (by rfl) _ _ 159 (by rfl) w.heap.size 252 ip _ 3 24 underlying159 E.1 E.2.1 E.2.2.1 E.2.2.2 rfl dz u3 1 (GS 1) (by rfl) HA (xK w1.heap.size 0) 1 1 (Ja 1) (by rfl) (by rfl) (bW w1 _ _ _ _) (Nh 1) om (by unfold maxLen;omega) om sO (w1.heap.size+1) sI ?_;intro g8 c8 w8 C B I N)
   refine ⟨⟨2,om,sI,AC C,AC (M.trans ⟨B.os,B.tape,B.output,B.size,λq hq=>B.block q sO (λe=> ?_)⟩)⟩,by simp [intOf]⟩;have:=HA.lt q e.symm;omega
  ·have HT:=AC (Lo 2 cb wr);have ix:=nl;unfold Ef at HT ⊢
   go_wp2_with fail
   refine HT.mono ?_;rintro e w1 ⟨rfl,D⟩;have T:=D.size;have F:Bw wr (w1.alloc (Obj.cells #[iV 2,iV 4,iV 0] 252)):=D.trans ((zw _ _).alloc D.size _);have HA:=AC (AB G 2 _ om rfl F);have M:=AC (HB.trans (F.mono O));unfold Ja;clear D F HT
   go_wp2_with (at_builtin;refine wpList_append_lies _ (by rfl) _ _ 159 (by rfl) w.heap.size 252 ip _ 3 24 underlying159 E.1 E.2.1 E.2.2.1 E.2.2.2 rfl dz u3 2 (GS 2) (by rfl) HA (xK w1.heap.size 0) 1 1 (Ja 2) (by rfl) (by rfl) (bW w1 _ _ _ _) (Nh 2) om (by unfold maxLen;omega) om sO (w1.heap.size+1) sI ?_;intro g8 c8 w8 C B I N)
   refine ⟨⟨3,om,sI,AC C,AC (M.trans ⟨B.os,B.tape,B.output,B.size,λq hq=>B.block q sO (λe=> ?_)⟩)⟩,by simp [intOf]⟩;have:=HA.lt q e.symm;omega
  ·have ix:=nr;go_wp2;exact ⟨⟨4,om,sI,HO,HB⟩,by simp [intOf]⟩
  ·have ix:=ns;go_wp2;exact ⟨⟨5,om,sI,HO,HB⟩,by simp [intOf]⟩
  ·have ix:=nt;go_wp2;exact ⟨⟨6,om,sI,HO,HB⟩,by simp [intOf]⟩
  ·have ix:=nw;go_wp2;exact ⟨⟨7,om,sI,HO,HB⟩,by simp [intOf]⟩
  ·have ix:=ny;go_wp2;exact ⟨⟨8,om,sI,HO,HB⟩,by simp [intOf]⟩
  ·go_wp2;go_ret;exact ⟨_,rfl,AB HO,AB HB⟩
def CZ {P:Program} {md:Region.Mode} {ops:Array Oper} {Q:Exit->Act->World->Prop} {S:World->Prop} {fuel:Nat} {B:Array Bool} {a:Act} {w:World} {i:Nat} {o:Oper} {rs:List Nat} (hi:ops[i]? =some o) (E:o.guard=none) (ty:TypeId) (x y:Operand) (ho:o.op= .store ty x y)
  (g off:Nat) (cs:List Value) (hx:a.eval x= qP g off) (hy:a.eval y= .agg cs.toArray)
  (t:TypeId) (C:List Value) (hg:AE w g t C) (F:(P.info? ty).map (·.size)=some cs.length) (D:off+cs.length<=C.length) (h1:∀v∈cs,v.oneCell'=true) (hd:o.dst=none)
  (h:∀w',Hid (AE w' g t (splice C off cs))->Hid (w.grownBy w' (some g))->S w'/\(S w'->wpAnyH P md ops Q S fuel (B.setIfInBounds i true) a w')) (hs:AllReadyH P md ops Q S fuel B a w rs):
  AllReadyH P md ops Q S fuel B a w (i::rs):=
 vq hi (λK hK=>PV E ty x y ho g off cs hx hy t C hg F D h1 hd (λw' a1 a2=>hK.out _ _ (h w' a1 a2).1 (h w' a1 a2).2)) hs
def jB (n:Nat) (h:n<=100000):∃B:Array Value,B.size=n*258/\(Instr.makeSlice 158 (iV 0) (iV n)).run prog w= .ok (sL w.heap.size 0 0 n) (w.alloc (.cells B 164)):=by
 obtain ⟨i,hi,C⟩:=up.1 MN;simp only [qx] at C;obtain ⟨hz,hs,hb⟩:=C;have hr:=run_make (P:=prog) w 158 164 i _ underlying158 hi hz .i64 .i64 0 n om om (by rw [hb];omega) om;rw [hs,Int.toNat_natCast] at hr;exact ⟨_,by simp [madeCells],hr⟩
def ZN:((#[{name:= "Number",type:=3,offset:=0,embedded:=false,tag:= "",pkgPath:= "",byteOffset:=0},{name:= "Perm",type:=162,offset:=1,embedded:=false,tag:= "",pkgPath:= "",byteOffset:=8},{name:= "Bytes",type:=134,offset:=2,embedded:=false,tag:= "",pkgPath:= "",byteOffset:=9}]:Array Field).mapM λf=>(do pure (f.offset,<-sizeOf f.type):Sem (Nat×Nat))).run prog w= .ok #[(0,1),(1,1),(2,256)] w:=kf
def eO (D C:Int) (B:List Int) (hb:B.length=256) (w:World):(Instr.build 164 #[(0,iV D),(1,.int .u8 C),(2,.agg (AF B).toArray)]).run prog w= .ok (.agg (Av D C B).toArray) w:=by
 have E:=zeroValue164 w;have hl:zeroCells164.toList.length=258:=by rw [xl];exact zeroCells164_size
 generalize zeroCells164=ZA at E hl;obtain ⟨Z⟩:=ZA;have hl:Z.length=258:=hl
 have F:Instr.fill (λi=>(#[(0,1),(1,1),(2,256)]:Array (Nat×Nat))[i]?) (Value.agg Z.toArray).cells [(0,Value.int .i64 D),(1,Value.int .u8 C),(2,Value.agg (AF B).toArray)]=some (Av D C B).toArray:=by
  show Instr.fill _ Z.toArray _=_;rw [Dw _ _ 0 0 1 _ _ rfl rfl (by rw [hl];omega),Dw _ _ 1 1 1 _ _ rfl rfl (by rw [BJ _ _ _ (by simp [Value.cells,hl])];omega),Dw _ _ 2 2 256 _ _ rfl (by simp [Value.cells,AG,hb]) (by rw [BJ _ _ _ (by rw [BJ _ _ _ (by simp [Value.cells,hl])];simp [Value.cells,hl]),BJ _ _ _ (by simp [Value.cells,hl])];omega)];refine congrArg some (congrArg List.toArray ?_)
  match Z,hl with
  |z0::z1::r,hl=>
   have hr:r.length=256:=sU hl;unfold splice Av;simp [Value.cells,AG,hb,hr]
 unfold Instr.build;simp only [uk,E,ye,ue underlying164,ZN,F];rfl
def Hj {w:World} {pb so:Nat} (B:Bc PS) (h:w.rangeAt pb so (AW PS)) {j:Nat} (hj:j<256):w.cell? (xK pb (so+j*257))=some (.int .u8 (DR PS j))/\∀p,PS.find? (λp=>p.num==(j:Int))=some p->w.rangeAt pb (so+j*257+1) (AF p.bytes):=by
 have hb:∀p∈PS,p.bytes.length=256:=λp hp=>(B.each p hp).2.2.2.2;refine ⟨h _ _ (by have:=Ik hb j 0 hj om;rw [sq] at this;rw [this];exact Qf PS j),λp hp i v hv=> ?_⟩;have hi:=(zy.1 hv).1;rw [AG,hb p (yk hp)] at hi;rw [sd so,sd so,sd (j*257)];refine h _ _ ?_;rw [Ik hb j (1+i) hj om];unfold Cx Bi;rw [hp,Nat.add_comm 1 i];exact hv
def Qv (PS:List Pg) (w:World) (J:Bc PS) (hc:w.rangeAt pb so (AW PS)) (d3:pb<w.heap.size):
  cT 201 #[qP pb so] w λe w'=>∃v,e= .returned v/\w'.ownsRow w.heap.size 164 258 v PS.length (BH PS)/\Bw w w':=by
 have c4:=AC (G1 pb so PS w J (λj hj=>(Hj J hc hj).1));have c6:PS.length<=256:=by have:=Il PS 256;rwa [Kg J] at this
 obtain ⟨b5,Y,d2⟩:=jB w PS.length om;obtain ⟨W1,a3⟩:=xE (w.alloc (.cells b5 164));have c5:Bw w W1:=by rw [a3];exact bA
 have c0:W1.ownsRow w.heap.size 164 258 (sL w.heap.size 0 0 PS.length) (Ee PS 0).length (BH (Ee PS 0)):=by rw [a3];exact World.ownsRow_made w b5 PS.length (zx _) (by unfold maxLen;omega) Y
 obtain ⟨a2,HC,d4,c9,d5⟩:=H5 J hc c5 c0 a3;obtain ⟨ip,b4,M,T,R⟩:=info_parts MN;have H:=AC (xi b4 (xi M (xi T R)));clear J hc c5 c0 a3 Y b4 M T R c6;go_enter func201,ntmps201
 go_wp2_with fail
 refine c4.mono ?_;rintro e w0 ⟨rfl,d6⟩;subst d6;clear c4
 go_upto_region 2 with fail
 rw [<-AB d5];clear d2;go_wp2
 go_loopw [3,9] (λv i wr=>∃k:Nat,k<=256/\i= iV k/\Hid (wr.ownsRow w0.heap.size 164 258 v (Ee PS k).length (BH (Ee PS k)))/\Hid (Bw w0 wr)) (λ_ i _=>256-(intOf i).toNat)
 case atStart=>exact ⟨0,om,rfl,c9,d4⟩
 case round=>
  obtain ⟨k,hk,rfl,HO,HB⟩:=hrel;by_cases d0:k<256
  ·have d8:(0:Int)<=(k:Int):=om;have d9:(k:Int)<256:=om;have b3:wr.rangeAt pb so (AW PS):=λj v hv=>by rw [HB.cell (p:=(xK pb (so+j))) d3];exact AB HC j v hv
   obtain ⟨D,C⟩:=Hj a2 b3 d0;have hs:=JE PS k;obtain ⟨pm,a6⟩:=xE (DR PS k);rw [<-a6] at D;rcases Gr a2 k with ⟨h1,h2⟩|⟨h1,p,c3,h2,h3⟩
   ·have HE:=AC (show Ee PS (k+1)=Ee PS k by rw [hs,h2];simp);have k0:pm=0:=om;subst k0;clear hs a6 h1 h2 b3 C;go_wp2;refine ⟨⟨k+1,om,sI,?_,HB⟩,by simp only [intOf];omega⟩;rw [AB HE];exact HO
   ·have c2:=a2.each p c3;have Z:p.num=(k:Int):=by have:=qz h2;simpa using this
    have HE:=AC (show Ee PS (k+1)=Ee PS k++[p] by rw [hs,h2];simp);have a1:=C p h2;have O:=c2.2.2.2.2;have k0:(pm==0)=false:=sO;have U:pm=p.perm:=om;have b8:=AC (xi Z (xi U O));obtain ⟨n,hn⟩:=xE ((Ee PS k).length);obtain ⟨xs,b1⟩:=xE (BH (Ee PS k));obtain ⟨bs,a0⟩:=xE (AF p.bytes);have f0:n<=256:=by rw [hn];have:=Il PS k;omega
    rw [<-hn,<-b1] at HO;rw [<-a0] at a1;have a8:bs.length=256:=by rw [a0,AG,O]
    have RB:Hid (∀w',(Instr.build 164 #[(0,iV (k:Int)),(1,.int .u8 pm),(2,.agg bs.toArray)]).run prog w'= .ok (.agg (Av (k:Int) pm p.bytes).toArray) w'):=λw'=>by rw [a0];exact eO _ _ _ O w'
    obtain ⟨PR,V⟩:=xE (Av (k:Int) pm p.bytes);rw [<-V] at RB;have X:PR.length=258:=by rw [V,EO,O]
    have L:∀v∈PR,v.oneCell'=true:=by rw [V];exact OP _ _ _
    have I:=AC (xi V (xi X L));have b7:=AC (xi hn b1);have a9:=AC (show cE wr pb (so+k*257) (.int .u8 pm)/\wr.rangeAt pb (so+k*257+1) bs from ⟨D,a1⟩);have F:pb<wr.heap.size:=o1 HB.size
    have R5:=AC (show ∀w':World,(w'.cell? (xK pb (so+k*257))=some (.int .u8 pm)/\w'.rangeAt pb (so+k*257+1) bs)->(Instr.loadAt 162 (qP pb (so+k*257))).run prog w'= .ok (.int .u8 pm) w' from λw' h'=>by
     have d:=h'.1;clear h' D a1
     go_simp)
    clear hs a6 h1 h2 h3 b3 C c2 Z a1 O U c3 hn b1 a0 V X L
    go_upto_region 7 with fail
    clear D k0;refine Ak ?_;intro A hA;have e3:A.eval (.tmp 3)=u3:=eH hA;have e4:A.eval (.tmp 4)= iV (k:Int):=eH hA;have e5:A.eval (.tmp 5)= qP pb (so+k*257):=eH hA;have d7:A.tmps.size=37:=eZ hA;have HA:=AC hA;clear hA;refine xf (S:=λw'=>w'.cell? (xK pb (so+k*257))=some (.int .u8 pm)/\w'.rangeAt pb (so+k*257+1) bs) kf a9 (λhS=> ?_);refine tq 0 22 rfl (yM u3) hS (tq 1 23 rfl (yM (iV (k:Int))) hS (tq 2 24 rfl (yM (qP pb (so+k*257))) hS (tq 3 25 rfl (yN (xK pb (so+k*257))) hS (tq 4 26 rfl (yF (qP pb (so+k*257)) (qP pb (so+k*257))) hS (tq 5 27 rfl (yl R5) hS ?_)))));refine tq 6 28 rfl (yM (qP pb (so+k*257))) hS (tq 7 29 rfl (yN (xK pb (so+k*257))) hS ?_)
    refine tq 8 30 rfl (yF (qP pb (so+k*257)) (qP pb (so+k*257+1))) hS (tq 9 31 rfl (yieldsIf_load_mid (by simp [Region.wanted]) 134 _ rfl pb (so+k*257+1) sE bs _ (λw h=>h.2) underlying134 rfl (by rw [Vx,a8])) hS (tq 10 32 rfl (EF rfl _ _ rfl #[(0,iV (k:Int)),(1,.int .u8 pm),(2,.agg bs.toArray)] sE (.agg PR.toArray) RB) hS ?_));refine rdy [11] kf (vq rfl (λK hK=> ?_) vr);refine Hu rfl _ 164 _ rfl PR sE ip _ underlying158 H.1 H.2.1 (by rw [H.2.2.1,I.2.1]) (by rw [I.2.1];decide) (by rw [I.2.1];decide) wr.heap.size rfl (some 33) rfl ?_
    have G:Bw wr (wr.drew.alloc (.cells PR.toArray 164)):=by
     have h:=(zw wr.drew.heap.size wr.drew).alloc (zx _) (.cells PR.toArray 164);exact ⟨h.os,h.tape,h.output,h.size,h.block⟩
    have b0:AE (wr.drew.alloc (.cells PR.toArray 164)) wr.heap.size 164 PR:=AE.new wr.drew 164 PR;have N:=Aw HO (AC G);obtain ⟨W2,b9⟩:=xE (wr.drew.alloc (.cells PR.toArray 164));rw [<-b9] at G b0 N ⊢;have a4:W2.cell? (xK pb (so+k*257))=some (.int .u8 pm)/\W2.rangeAt pb (so+k*257+1) bs:=⟨by rw [G.cell (p:=(xK pb (so+k*257))) F];exact a9.1,λj v hv=>by rw [G.cell (p:=(xK pb (so+k*257+1+j))) F];exact a9.2 j v hv⟩;refine hK.out _ _ a4 (λc7=> ?_);clear hK K;refine rdy [12] kf (vq rfl (λK hK=> ?_) vr);have b6:=HB.size;refine step_append_lies _ rfl _ _ 158 rfl w0.heap.size 164 ip _ 258 272 underlying158 H.1 H.2.1 H.2.2.1 H.2.2.2 (by show DQ.toArray.size=258;simp [Ev]) dz u3 n xs sE N (xK wr.heap.size 0) 1 1 PR sE (by rw [I.2.1]) (Hf (AC b0)) I.2.2 om (by unfold maxLen;omega) om (o1 G.size) W2.heap.size rfl ?_
    intro g8 c8 w8 E B a7 b2
    have a5:some pb≠u3.ownBlock:=by
     intro e;have:=N.lt pb e.symm;omega
    refine hK.out _ _ ⟨B.cell a4.1 a5,Dm a4.2 B a5⟩ (λc1=> ?_);clear hK K;refine tq 13 3 rfl (yA (sL g8 0 (n+1) c8)) c1 ?_;refine vg kf ?_ _;rw [AB HA];simp only [Act.put,zl,zh,zi]
    have HF:=AC (show w8.ownsRow w0.heap.size 164 258 (sL g8 0 (n+1) c8) (Ee PS (k+1)).length (BH (Ee PS (k+1)))/\Bw w0 w8 from by
     refine ⟨?_,?_⟩
     ·rw [AB HE,zm,IK,<-b7.1,<-b7.2,show BH [p]=PR by rw [I.1,b8.2.1,<-b8.1];simp [BH]];exact E
     ·have h1:=HB.trans (G.mono b6);refine h1.trans ⟨B.os,B.tape,B.output,B.size,λq hq=>B.block q (o1 h1.size) (λe=> ?_)⟩;have:=N.lt q e.symm
      omega)
    clear hS a4 c7 c1 E B a7 b2 a5 G b0 N b9 b6 HA e3 e4 e5 d7 RB R5 F;go_wp2;exact ⟨⟨k+1,om,sI,AC HF.1,AC HF.2⟩,by simp only [intOf];omega⟩
  ·have d1:k=256:=om;subst d1;go_wp2;go_ret;have ho:=AB HO;rw [Kg (AB a2)] at ho;exact ⟨_,rfl,ho,AB HB⟩
def eP:eN 58:=enters_of func58 kf rfl
def KB:(prog.info? 161).map (·.size)=some 24:=kf
def Wo:(prog.info? 78).map (·.size)=some 31:=kf
def Ni (w:World) (OB:List ROb) (AL:List AP) (e:Ending) (w':World):Prop:=
 ∃aa ag ac LS,e= .returned (.slice aa AL.length ac)/\(0<AL.length->aa=some (xK ag 0)/\ag<w'.heap.size)/\Bw w w'/\Fa w' w.heap.size ag 0 OB AL LS
def eQ (wb kb:Nat) (kp:Option Addr) (pa:Option Addr) (gp pc:Nat) (oa:Option Addr) (og oc:Nat) (OB:List ROb) (AL:List AP) (w:World)
  (h5:cE w wb 0 (.pointer kp)) (a3:cE w wb 1 (qP kb 0)) (c9:cE w kb 5 (.slice pa AL.length pc)) (d7:0<AL.length->pa=some (xK gp 0)) (c5:iY w w.heap.size gp AL)
  (f2:cE w kb 6 (.slice oa OB.length oc)) (d4:0<OB.length->oa=some (xK og 0)/\og<w.heap.size) (c0:nF w og OB) (d8:OB.length<=100000) (g9:AL.length<=1000) (b7:∀p∈AL,pU p) (b4:wb<w.heap.size) (b3:kb<w.heap.size)
  (hP:cT 57 #[.pointer kp] w (Ni w OB AL)):
  cT 29 #[qP wb 0] w λe w'=>e= .returned (.bool true)/\Bw w w':=by
 obtain ⟨HP,c6,g6,b5,f5,f9⟩:=H6 hP c5 d7 d4 c0 b7;clear hP c5 d7 d4 c0 b7;go_enter func29,ntmps29
 go_wp2_with fail
 refine HP.mono ?_;rintro e w1 ⟨aa,ag,ac,LS,rfl,c8,a0,c3⟩;obtain ⟨d2,g2,f8⟩:=H3 c8 a0 c3;have d1:w1.cell? (xK wb 1)=some (qP kb 0):=by rw [a0.cell (p:=(xK wb 1)) b4];exact a3
 have d5:w1.cell? (xK kb 5)=some (.slice pa AL.length pc):=by rw [a0.cell (p:=(xK kb 5)) b3];exact c9
 clear HP c8 a0 c3;go_wp2;clear d1 d5
 go_loopw [4] (λi wr=>∃j:Nat,j<=AL.length/\i= iV j/\Hid (Fa wr w.heap.size ag j OB AL LS)/\Hid (Bw w wr)/\Hid (0<AL.length->ag<wr.heap.size)) (λi _=>AL.length-(intOf i).toNat)
 case atStart=>exact ⟨0,om,rfl,f8,g2,AC (λh=>(AB d2 h).2)⟩
 case round=>
  obtain ⟨j,hj,rfl,a1,HB,g4⟩:=hrel;by_cases b8:j<AL.length
  ·obtain ⟨p,hp⟩:∃p,AL[j]? =some p:=⟨_,zz b8⟩;obtain ⟨l,hl⟩:∃l,LS[j]? =some l:=⟨_,zz (by rw [a1.len];exact b8)⟩;have Z:=a1.at_ j p l (zx _) hp hl;obtain ⟨ab,gb,cb,L,N,I⟩:=c6.at_ j p hp;have f7:=c6.lt om;have a7:=AB g4 om;obtain rfl:=AB g6 om;obtain rfl:=(AB d2 om).1;have M:=AB f9 p (zv hp);have h3:=HB.size;have g8:(0:Int)<=(j:Int):=om;have h1:(j:Int)<(AL.length:Int):=om;have R1:Hid (∀w',Bw wr w'->w'.rangeAt ag (j*24) (TJ OB p l)):=λw' h k v hv=>by rw [h.cell (p:=(xK ag (j*24+k))) a7];exact Z.row k v hv
   have R2:Hid (∀w',Bw wr w'->w'.rangeAt gp (j*31) (Au p.pid p.par p.st p.su p.le p.pc p.R (.slice ab p.PS.length cb) p.F)):=λw' h k v hv=>by rw [h.cell (p:=(xK gp (j*31+k))) (by show gp<wr.heap.size;omega),HB.cell (p:=(xK gp (j*31+k))) f7];exact L k v hv
   have R3:=AC (show ∀w',Bw wr w'->(Instr.loadAt 45 (qP wb 1)).run prog w'= .ok (qP kb 0) w' from λw' h=>by
    have c:w'.cell? (xK wb 1)=some (qP kb 0):=by rw [h.cell (p:=(xK wb 1)) (by show wb<wr.heap.size;omega),HB.cell (p:=(xK wb 1)) b4];exact a3
    go_simp)
   have R4:=AC (show ∀w',Bw wr w'->(Instr.loadAt 79 (qP kb 5)).run prog w'= .ok (sL gp 0 AL.length pc) w' from λw' h=>by
    have c:w'.cell? (xK kb 5)=some (sL gp 0 AL.length pc):=by rw [h.cell (p:=(xK kb 5)) (by show kb<wr.heap.size;omega),HB.cell (p:=(xK kb 5)) b3];exact c9
    go_simp)
   have O:Bw wr wr.drew:=⟨rfl,rfl,rfl,zx _,λ_ _=>rfl⟩
   have B:=AC (show ∀w',Bw wr w'->cT 58 #[qP wb 0,.agg (TJ OB p l).toArray,.agg (Au p.pid p.par p.st p.su p.le p.pc p.R (.slice ab p.PS.length cb) p.F).toArray] w' λe w2=>e= .returned (.bool true)/\Bw w' w2 from λw' h=>by
    have hs:=h.size;have E:∀b o,b<w.heap.size->w'.cell? (xK b o)=w.cell? (xK b o):=λb o hb=>by rw [h.cell (p:=(xK b o)) (by show b<wr.heap.size;omega),HB.cell (p:=(xK b o)) hb]
    have D:=Z.below h
    exact UU wb kb (.bool true) oa og oc OB p.pid p.par p.st p.su p.le p.pc p.R p.F l.aa ab l.ga gb l.ca cb p.PS l.fa l.fg l.fo l.fc w' ((E _ _ b4).trans a3) ((E _ _ b3).trans f2) (λh0=>(AB b5 h0).1) (λk v hv=>by
      have h0:0<OB.length:=by
       cases OB with
       |nil=>simp [TF] at hv
       |cons a r=>simp
      rw [E _ _ (AB b5 h0).2];exact (AB f5) k v hv) d8 M.regs (λh0=>(D.aa h0).1) (λh0=>(N h0).1) D.pages (λk q hq=>by
      have h0:0<p.PS.length:=o1 (zy.1 hq).1;obtain ⟨x1,x2,x3⟩:=I k q hq
      exact ⟨by rw [E _ _ (N h0).2];exact x1,by rw [E _ _ (N h0).2];exact x2,λm v hv=>by rw [E _ _ (N h0).2];exact x3 m v hv⟩) M.pages (o1 M.count) (λh0=>(D.fa h0).1) D.fds ⟨om,om,λh0=>o1 (AB b5 h0).2,λh0=>⟨(D.aa h0).2.2.1,o1 (N h0).2⟩,λh0=>(D.fa h0).2⟩)
   have g3:=AC Z;have f3:=AC (xi hp hl);have b2:=M;clear Z L I M
   go_upto_region 7 with fail
   refine Ak ?_;intro A hA;have e0:A.eval (.tmp 0)= qP wb 0:=eH hA;have e3:A.eval (.tmp 3)= sL ag 0 AL.length ac:=eH hA;have e4:A.eval (.tmp 4)= iV j:=eH hA;have d6:A.tmps.size=85:=eZ hA;have HA:=AC hA;clear hA;refine xf (S:=λw'=>Bw wr w') kf O (λhS=> ?_);refine tq 0 29 rfl (yM (qP wb 0)) hS (tq 1 30 rfl (yM (sL ag 0 AL.length ac)) hS (tq 2 31 rfl (yM (iV j)) hS (tq 3 32 rfl (yJ (sL ag 0 AL.length ac) (iV j) (qP ag (j*24))) hS (tq 4 33 rfl (yieldsIf_load_mid (by simp [Region.wanted]) _ _ rfl ag (j*24) sE (TJ OB p l) _ (AB R1) underlying161 rfl KB) hS (tq 5 34 rfl (yM (qP wb 0)) hS ?_)))));refine tq 6 35 rfl (yN (xK wb 0)) hS (tq 7 36 rfl (yF (qP wb 0) (qP wb 1)) hS ?_)
   refine tq 8 37 rfl (yl R3) hS (tq 9 38 rfl (yN (xK kb 0)) hS (tq 10 39 rfl (yF (qP kb 0) (qP kb 5)) hS (tq 11 40 rfl (yl R4) hS (tq 12 41 rfl (yM (iV j)) hS (tq 13 42 rfl (yJ (sL gp 0 AL.length pc) (iV j) (qP gp (j*31))) hS ?_)))));refine tq 14 43 rfl (yieldsIf_load_mid (by simp [Region.wanted]) _ _ rfl gp (j*31) sE (Au p.pid p.par p.st p.su p.le p.pc p.R (.slice ab p.PS.length cb) p.F) _ (AB R2) underlying78 rfl Wo) hS ?_;refine rdy [15] kf (vq rfl (λK hK=> ?_) vr);refine QT rfl 58 29 33 43 _ _ _ rfl (qP wb 0) (.agg (TJ OB p l).toArray) (.agg (Au p.pid p.par p.st p.su p.le p.pc p.R (.slice ab p.PS.length cb) p.F).toArray) sE sE sE eP _ (.bool true) (λe w' h=>h.1) (AB B wr.drew O) (some 44) rfl ?_
   rintro w2 ⟨_,c2⟩;have C:Bw wr w2:=O.trans c2;refine hK.out _ _ C (λ_=> ?_);clear hK K;refine tq 16 5 rfl (Bm rfl (v:= .bool true) (λw' _=>by simp only [execOp];simp [Ae,AU,d6])) C ?_;refine vg kf ?_ _;rw [AB HA];simp only [Act.put,zl,zh,zi];have b1:=g3.below C;have f1:cE w2 ag (j*24+22) (.slice l.aa p.PS.length l.ca):=b1.row 22 _ rfl;have a4:=AC b1;have c1:=AC (a1.below C);have U:=AC (HB.trans (C.mono om));have g7:=C.size;have h4:=b2.count;clear b1 c2 B R1 R2 R3 R4 HA e0 e3 e4 d6 hS C O;go_wp2
   obtain ⟨ρ,hρ1,hρ0⟩:∃ρ:Option Nat,(0<p.PS.length->ρ=some l.ga)/\(¬0<p.PS.length->ρ=none):=by
    by_cases h0:0<p.PS.length
    ·exact ⟨some l.ga,λ_=>rfl,λh=>absurd h0 h⟩
    ·exact ⟨none,λh=>absurd h h0,λ_=>rfl⟩
   have Y:=AC (xi hρ1 hρ0);clear hρ1 hρ0
   go_loopw [6] (λi wq=>∃m:Nat,m<=p.PS.length/\i= iV m/\Hid (JH wq l.ga p.PS.length)/\Hid (w2.grownBy wq ρ)/\Hid (wq.cell? (xK ag (j*24+22))=some (.slice l.aa p.PS.length l.ca))) (λi _=>p.PS.length-(intOf i).toNat)
   case atStart=>exact ⟨0,om,rfl,AC a4.pgc,AC (zj _ _),AC f1⟩
   case round=>
    obtain ⟨m,hm,rfl,b0,HG,HC⟩:=hrel;have T:=AB HC;by_cases f4:m<p.PS.length
    ·obtain ⟨d3,d0,f0,a8⟩:=a4.aa om;rw [d3] at T;obtain ⟨q1,q2,⟨X,q3⟩,q4⟩:=AB b0 m f4;obtain ⟨V,q1⟩:=Option.isSome_iff_exists.1 q1;have h2:(0:Int)<=(m:Int):=om;have h6:(m:Int)<(p.PS.length:Int):=om;have b9:=Y.1 om;rw [b9] at HG;obtain ⟨G,hG⟩:=xE l.ga;rw [<-hG] at T q1 q2 q3 q4 a8 b0 HG;obtain ⟨W3,H⟩:=xE (wr.setCell (xK G (m*258)) (iV 999));have a6:wr.grownBy W3 (some G):=by rw [H];exact AI (zj wr (some G)) _ _
     have c4:W3.cell? (xK ag (j*24+22))=some (sL G 0 p.PS.length l.ca):=a6.cell T (by simp;exact λe=>a8 e.symm);have y2:W3.cell? (xK G (m*258+2))=some (.int .u8 X):=by rw [H,yy _ _ _ _ (by simp<;>omega)];exact q3
     have yf:W3.frozen? (xK G (m*258+2))=false:=by rw [H];simpa using q4
     have a2:=AC (show JH W3 G p.PS.length from by rw [H];exact b0.set _ _ (λk hk e=>om));have g5:=AC (HG.trans a6);have g0:=AC H;have a9:=AC hG;clear H a6 hG b9 q3 q4 f0 d0
     go_upto_region 14 with fail
     rw [<-AB g0];clear T q1 q2
     go_region
     have a5:=AC (show JH (W3.setCell (xK G (m*258+2)) (.int .u8 ((X+1)%256))).drew l.ga p.PS.length from by
      rw [<-AB a9]
      exact a2.set (m*258+2) (.int .u8 ((X+1)%256)) (λk hk e=>⟨_,rfl⟩))
     have f6:=AC (show w2.grownBy (W3.setCell (xK G (m*258+2)) (.int .u8 ((X+1)%256))).drew ρ from by
      rw [Y.1 om,<-AB a9];have h:=AI g5 (m*258+2) (.int .u8 ((X+1)%256))
      exact ⟨h.os,h.tape,h.output,h.size,h.block⟩)
     have d9:=AC (show (W3.setCell (xK G (m*258+2)) (.int .u8 ((X+1)%256))).drew.cell? (xK ag (j*24+22))=some (.slice l.aa p.PS.length l.ca) from by
      rw [d3,<-AB a9]
      exact (AI (zj W3 (some G)) (m*258+2) (.int .u8 ((X+1)%256))).cell c4 (by simp;exact λe=>a8 e.symm))
     clear c4 y2 yf;go_wp2
     go_roundw
     case rel=>exact ⟨m+1,om,by go_num,a5,f6,d9⟩
     case measure=>simp [intOf];omega
    ·obtain ⟨hp,hl⟩:=AB f3
     have c7:=AC (show Fa wr w.heap.size ag (j+1) OB AL LS/\Bw w wr from by
      by_cases h0:0<p.PS.length
      ·have hg:=AB HG;rw [Y.1 h0] at hg;have d0:=(a4.aa h0).2.1;have J:=U.size;exact ⟨c1.rest hp hl h0 hg,U.trans ⟨hg.os,hg.tape,hg.output,hg.size,λk hk=>hg.block k om sO⟩⟩
      ·have hg:=AB HG;rw [Y.2 h0] at hg;have J:=U.size;have b6:Bw w2 wr:=⟨hg.os,hg.tape,hg.output,hg.size,λk hk=>hg.block k hk sI⟩
       exact ⟨(c1.below b6).next,U.trans (b6.mono J)⟩)
     have g1:Hid (0<AL.length->ag<wr.heap.size):=λ_=>o1 HG.size;go_wp2
     go_roundw
     case rel=>exact ⟨j+1,om,by go_num,AC c7.1,AC c7.2,g1⟩
     case measure=>simp [intOf];omega
  ·go_wp2;go_ret;exact ⟨rfl,AB HB⟩
def GE (so:Nat) (x:Int):Nat:=so+(x/256).toNat*257+1+(x%256).toNat
def EH (w:World) (pb so:Nat) (addr:Int) (L:List Int):Nat->World
 |0=>w
 |j+1=>(EH w pb so addr L j).setCell (xK pb (GE so (IntKind.u64.wrap (addr+(j:Int))))) (.int .u8 (L.getD j 0))
def KD (w:World) (pb so:Nat) (B:Int) (L:List Int):∀j,w.grownBy (EH w pb so B L j) (some pb)
 |0=>zj w _
 |j+1=>AI (KD w pb so B L j) _ _
def Ol (w:World) (pb so:Nat) (B:Int) (L:List Int) (o:Nat) (h:∃z,cE w pb o (.int .u8 z)):∀j,∃z,(EH w pb so B L j).cell? (xK pb o)=some (.int .u8 z)
 |0=>h
 |j+1=>by
  obtain ⟨z,hz⟩:=Ol w pb so B L o h j;by_cases e:GE so (IntKind.u64.wrap (B+(j:Int)))=o
  ·subst e;exact ⟨_,yx _ _ _ hz⟩
  ·refine ⟨z,?_⟩;show ((EH w pb so B L j).setCell _ _).cell? _=_;rw [yy _ _ _ _ (λq=>e (by injection q))];exact hz
def Ml (w:World) (pb so:Nat) (B:Int) (L:List Int) (i:Nat) (h:w.frozen? (xK pb i)=false):∀j,(EH w pb so B L j).frozen? (xK pb i)=false
 |0=>h
 |j+1=>by
  show ((EH w pb so B L j).setCell _ _).frozen? _=_;simpa using Ml w pb so B L i h j
def jG {w w':World} (h:w.heap=w'.heap) (a:Addr) (v:Value):(w.setCell a v).heap=(w'.setCell a v).heap:=by
 simp only [World.setCell,h]
def Kl (w w':World):Prop:=w'.heap=w.heap/\w'.os=w.os/\w'.tape=w.tape/\w'.output=w.output
def lu (b:Bool) (w F:World) (e:Ending) (w':World):Prop:=e= .returned (.bool b)/\(b=true->Kl F w')/\(b=false->w'=w)
def Qy (bb o:Nat) (V:Int) (w:World):Prop:=w.cell? (xK bb o)=some (.int .u8 V)
def jH:eN 319:=enters_of func319 kf rfl
def jI (bb bo R:Nat) (f:Nat->Int) (B:Int) (L:List Int) (n:Nat) (w:World) (hL:L.length=n) (hn:n<=10000) (a5:bb≠pb) (ha:0<=B/\B<=18446744073709551615) (b3:n<=R) (hc:∀j:Nat,j<256->w.cell? (xK pb (so+j*257))=some (.int .u8 (f j))) (hg:∀M K:Nat,M<256->K<256->∃z,w.cell? (xK pb (so+M*257+1+K))=some (.int .u8 z)) (hb:∀i,i<n->w.cell? (xK bb (bo+i))=some (.int .u8 (L.getD i 0))) (b1:∀i,w.frozen? (xK pb i)=false):
  cT 271 #[qP pb so,uV B,sL bb bo n R] w (lu (Cl f 2 B n) w (EH w pb so B L n)):=by
 have a4:=AC (Ws pb so f 2 B n w hn hc);obtain ⟨HG,HB,G⟩:=H3 hg hb b1;obtain ⟨b,a3⟩:=xE (Cl f 2 B n);have a6:Hid (b=true->∀j,j<n->IntKind.u64.wrap (B+(j:Int))<65536):=λh j hj=>Ok (a3▸h) hj;rw [<-a3] at a4 ⊢;clear hc hg hb b1 a3 hL;go_enter func271,ntmps271
 go_wp2_with fail
 refine a4.mono ?_;rintro e w1 ⟨rfl,b4⟩;subst b4;clear a4
 cases b with
 |false=>
  go_wp2;go_ret
  exact ⟨rfl,λh=>(by cases h),λ_=>rfl⟩
 |true=>
 have O:=AC (AB a6 rfl);clear a6;obtain ⟨W0,a1⟩:=xE w1;rw [<-a1] at HG HB G;have b7:=AC a1;go_wp2
 go_loopw [16] (λi wr=>∃j:Nat,j<=n/\i= iV j/\Hid (Kl (EH W0 pb so B L j) wr)) (λi _=>n-(intOf i).toNat)
 case atStart=>exact ⟨0,om,rfl,AC (by rw [<-a1];exact ⟨rfl,rfl,rfl,rfl⟩)⟩
 case round=>
  obtain ⟨j,hj,rfl,F⟩:=hrel;clear a1;by_cases a8:j<n
  ·have b9:(j:Int)<(n:Int):=om;have b8:(0:Int)<=(j:Int):=om;have b0:=AB O j a8;obtain ⟨X,hX⟩:=xE (IntKind.u64.wrap (B+(j:Int)));rw [<-hX] at b0;have b6:0<=X:=by rw [hX,yh];omega
   obtain ⟨M,hM⟩:∃M:Nat,(M:Int)=X/256:=⟨(X/256).toNat,om⟩;obtain ⟨K,hK⟩:∃K:Nat,(K:Int)=X%256:=⟨(X%256).toNat,om⟩;have I:GE so X=so+M*257+1+K:=by unfold GE;rw [show (X/256).toNat=M by omega,show (X%256).toNat=K by omega]
   obtain ⟨Y,hY⟩:=xE (so+M*257+1+K);obtain ⟨V,hV⟩:=xE (L.getD j 0);have C:=AB F
   have E:wr.drew.cell? (xK bb (bo+j))=some (.int .u8 V):=by
    have h1:=(KD W0 pb so B L j).cell (AB HB j a8) (sU a5);rw [hV];unfold World.cell? at h1 ⊢;rw [show wr.drew.heap=wr.heap from rfl,C.1];exact h1
   obtain ⟨z,hz⟩:∃z,wr.drew.cell? (xK pb Y)=some (.int .u8 z):=by
    obtain ⟨z,h1⟩:=Ol W0 pb so B L Y (by rw [hY];exact AB HG M K om om) j;refine ⟨z,?_⟩;unfold World.cell? at h1 ⊢;rw [show wr.drew.heap=wr.heap from rfl,C.1];exact h1
   have Z:wr.drew.frozen? (xK pb Y)=false:=by
    have h1:=Ml W0 pb so B L Y (AB G Y) j;unfold World.frozen? at h1 ⊢;rw [show wr.drew.heap=wr.heap from rfl,C.1];exact h1
   obtain ⟨wn,D⟩:=xE (wr.drew.setCell (xK pb Y) (.int .u8 V))
   have T:=AC (show (Instr.storeAt 5 (qP pb Y) (.int .u8 V)).run prog wr.drew= .ok () wn from by
    rw [D];clear C E I hX hM hK hY hV F HG HB G O D
    go_simp)
   have N:=AC (show Qy bb (bo+j) V wn from by
    rw [D]
    exact (AI (zj wr.drew (some pb)) Y (.int .u8 V)).cell E (sU a5))
   have HN:=AC (show Kl (EH W0 pb so B L (j+1)) wn from by
    have e1:EH W0 pb so B L (j+1)=(EH W0 pb so B L j).setCell (xK pb Y) (.int .u8 V):=by
     show (EH W0 pb so B L j).setCell (xK pb (GE so (IntKind.u64.wrap (B+(j:Int))))) (.int .u8 (L.getD j 0))=_;rw [<-hX,I,<-hY,<-hV]
    rw [e1,D]
    exact ⟨jG C.1 _ _,C.2.1,C.2.2.1,C.2.2.2⟩)
   have J:Hid (Qy bb (bo+j) V wr.drew):=E;have H:=AC (bZ pb so M K wr.drew om om X om);rw [<-hY] at H
   have RB:=AC (show ∀w':World,Qy bb (bo+j) V w'->(Instr.loadAt 5 (qP bb (bo+j))).run prog w'= .ok (.int .u8 V) w' from λw' c=>by
    unfold Qy at c;clear C E I hX hM hK hY hV F HG HB G O D T N HN J H hz Z
    go_simp)
   have RC:=AC (show ∀w':World,(convert 3 73 (iV (j:Int))).run prog w'= .ok (uV (j:Int)) w' from λw'=>by
    have c0:IntKind.u64.wrap (j:Int)=(j:Int):=by rw [yh];omega
    clear C E I hX hM hK hY hV F HG HB G O D T N HN J H hz Z RB
    go_simp)
   have RD:=AC (show ∀w':World,((do eqGuard .add 73 (.tmp 20) (.tmp 22) (uV B) (uV (j:Int));binOp .add 73 (uV B) (uV (j:Int)):Sem Value)).run prog w'= .ok (uV X) w' from λw'=>by
    have q1:=hX.symm;clear C E I hX hM hK hY hV F HG HB G O D T N HN J H hz Z RB RC
    go_simp)
   have RK:=AC (show ∀w':World,(Instr.indexAt 36 (sL bb bo n R) (iV (j:Int))).run prog w'= .ok (qP bb (bo+j)) w' from λw'=>by
    clear C E I hX hM hK hY hV F HG HB G O D T N HN J H hz Z RB RC RD
    go_simp)
   clear C E I hX hM hK hY hV D hz Z b0 b6
   go_upto_region 6 with fail
   refine Ak ?_;intro A hA;have e0:A.eval (.tmp 0)= qP pb so:=eH hA;have e1:A.eval (.tmp 1)= uV B:=eH hA;have e2:A.eval (.tmp 2)= sL bb bo n R:=eH hA;have e7:A.eval (.tmp 7)= iV (j:Int):=eH hA;have a2:A.tmps.size=31:=eZ hA;have a9:=AC hA;clear hA;refine xf (S:=Qy bb (bo+j) V) kf J (λhS=> ?_);refine tq 0 19 rfl (yM (qP pb so)) hS (tq 1 20 rfl (yM (uV B)) hS (tq 2 21 rfl (yM (iV (j:Int))) hS (tq 3 22 rfl (Ex rfl _ _ _ rfl (iV (j:Int)) sE (uV (j:Int)) RC) hS (tq 4 23 rfl (yB (uV B) (uV (j:Int)) (uV X) RD) hS (tq 6 25 rfl (yM (sL bb bo n R)) hS ?_)))));refine tq 7 26 rfl (yM (iV (j:Int))) hS (tq 8 27 rfl (yI (sL bb bo n R) (iV (j:Int)) (qP bb (bo+j)) RK) hS (tq 9 28 rfl (yl RB) hS ?_))
   refine rdy [5] kf (vq rfl (λK hK=> ?_) vr);refine Bn rfl 319 _ _ rfl #[qP pb so,uV X] sE jH _ (λe w' h=>⟨_,h.1⟩) H (some 24) rfl ?_;rintro r w2 ⟨hr,rfl⟩;obtain rfl:r= qP pb Y:=by injection hr
   refine hK.out _ _ hS (λ_=> ?_);clear hK K;refine tq 10 29 rfl (yN (xK pb Y)) hS ?_;refine QU ?_;intro A2 a0;have b2:A2.eval (.tmp 29)= qP pb Y:=by rw [a0];simp [Ae,AU,a2,e0,e1,e2,e7,BN]
   have a7:A2.eval (.tmp 28)= .int .u8 V:=by rw [a0];simp [Ae,AU,a2,e0,e1,e2,e7,BN]
   have U:=AC a0;clear a0;refine rdy [11] kf (vq rfl (λK hK=> ?_) vr);refine Hv rfl _ (.tmp 29) (.tmp 28) rfl (xK pb Y) (.int .u8 V) b2 a7 T rfl ?_;refine hK.out _ _ N (λ_=> ?_);clear hK K;refine vg kf ?_ _;rw [AB U,AB a9];simp only [Act.put,zl,zh,zi];clear RB RC RD RK J N T a9 U b2 a7 e0 e1 e2 e7 a2 hS H;go_wp2;exact ⟨⟨j+1,om,sI,HN⟩,by simp only [intOf];omega⟩
  ·have b5:j=n:=om;subst b5;go_wp2;go_ret;exact ⟨rfl,λ_=>(by rw [<-AB b7];exact AB F),λh=>(by cases h)⟩
def Wu {B:List Int} (h:AK B) (i:Nat) {v:Int} (hv:0<=v/\v<=255):AK (B.set i v):=by
 intro r;have hr:=h r;rw [zk] at hr ⊢;rw [yv];split
 ·split
  ·exact hv
  ·exact ⟨si 0,dz⟩
 ·exact hr
def SY (h:∀q∈PS,AK q.bytes) (x:Int) {v:Int} (hv:0<=v/\v<=255):∀q∈Ds PS x v,AK q.bytes:=by
 unfold Ds;split
 ·split
  ·rename_i k q0 hq
   intro q hm;rcases rj hm with h1|rfl
   ·exact h q h1
   ·exact Wu (h q0 (zv hq)) _ hv
  ·exact h
 ·exact h
def Mn {PS:List Pg} (h:∀q∈PS,AK q.bytes) (B:Int) {L:List Int} (hL:AK L):∀j,∀q∈CF PS B L j,AK q.bytes
 |0=>h
 |j+1=>SY (Mn h B hL j) _ (hL j)
section
variable {oc:Int->Int} {lz:Bool}
def DN (p:PK) (s:ByteArray):Int:=if (AH p.xs s).e≠0 then (AH p.xs s).e else if (AH p.xs s).n=0 then 9 else if Ce p.xs (AH p.xs s).n=true then 11 else 0
def Pj (c:Int):Ending:= .returned (.tuple #[.pointer none,.iface 40 (iV c)])
def Q7 (p:PK) (NB:List Nat) (s:ByteArray) (w:World) (e:Ending) (w':World):Prop:=
 Bw w w'/\(DN p s≠0/\e=Pj (DN p s)\/DN p s=0/\∃(i:Nat) (x:Ino) (c:Nat),p.xs[i]? =some x/\x.id=(AH p.xs s).n/\NB[i]? =some c/\x.dir=false/\(AH p.xs s).e=0/\(AH p.xs s).n≠0/\e= .returned (.tuple #[qP c 0,.nilIface]))
def ZW (p:PK) (B tb ab am:Nat) (C:Int) (NB MB:List Nat) (V:List Value) (s:ByteArray) (mm:Int) (w:World) (hr:Bf w B tb ab am p.li p.lb C p.xs NB MB V oc) (hi:Ct lz p) (H:p.xs.length<=900000) (b6:0<=p.li/\p.li<=1000000) (hu:0<=C/\C<=p.lb) (b9:p.lb<=1000000) (hs:s.size<=maxLen) (hm:cE w 3 0 (iV mm)) (b0:3<w.heap.size):
  cT 70 #[qP tb 0,.string s] w (Q7 p NB s w):=by
 have a5:p.xs≠[]:=by obtain ⟨x,hx,_⟩:=hi.root;intro e;rw [e] at hx;cases hx
 have T:=AC (Gt B tb ab am p.li p.lb C p.xs NB MB V s mm w hr (λ_=>a5) (λx hx=>(hi.ids x hx).1) hi.incr hs hm b0);have HR:=AC hr;have HI:=AC hi;have b2:=AC (show p.xs.length<=900000/\(0<=p.li/\p.li<=1000000)/\(0<=C/\C<=p.lb)/\p.lb<=1000000 from ⟨H,b6,hu,b9⟩);clear hr hi H b6 hu b9 hm b0 a5 hs;go_enter func70,ntmps70
 go_wp2_with fail
 refine T.mono ?_;rintro e w1 ⟨F,(⟨he,rfl⟩|⟨he,b,name,b3,rfl⟩)⟩
 ·have HP:=AC (show Q7 p NB s w (Pj (AH p.xs s).e) (w1.alloc (Obj.cells #[.pointer none,.string ByteArray.empty,.string ByteArray.empty] 176)) from by
   have hc:DN p s=(AH p.xs s).e:=by unfold DN;rw [vu he]
   exact ⟨F.alloc F.size _,.inl ⟨by rw [hc];exact he,by rw [hc]⟩⟩)
  clear F he T;unfold Jz;go_wp2
  go_ret2
  exact AB HP
 ·obtain ⟨W2,R⟩:=xE (w1.alloc (Obj.cells #[qP b 0,.string name,.string s] 176));have Z:Bw w W2:=by rw [R];exact F.alloc F.size _
  have b4:AE W2 w1.heap.size 176 [qP b 0,.string name,.string s]:=by rw [R];exact AE.new w1 176 _
  have G:=HR.below Z;obtain ⟨m,k,ff,c8,U,a0,a1,c3,b7,c4,D⟩:=WQ G HI he b3
  obtain ⟨dv,b5,a4⟩:∃dv:Bool,(∀c,ff name=some c->∃v0 vs,AE W2 c 257 (v0:: .bool dv::vs))/\(DN p s=WJ (ff name).isSome false (decide (p.li<=(p.xs.length:Int))) dv/\(DN p s=0->∃(i:Nat) (x:Ino) (c:Nat),p.xs[i]? =some x/\x.id=(AH p.xs s).n/\NB[i]? =some c/\x.dir=false/\(AH p.xs s).e=0/\(AH p.xs s).n≠0/\ff name=some c)):=by
   rcases D with ⟨hn,i,x,c,y1,y2,y3,y4⟩|⟨hn,y,_⟩
   ·obtain ⟨mi,c6⟩:∃mi,MB[i]? =some mi:=⟨_,zz (by rw [G.len.2];exact (zy.1 y1).1)⟩;obtain ⟨qn,v1,c9,z1,_⟩:=G.node i x c mi y1 y3 c6;have c5:Ce p.xs (AH p.xs s).n=x.dir:=by rw [<-y2];exact Ga HI.incr y1
    have I:DN p s=if x.dir=true then 11 else 0:=by unfold DN;rw [vz (sU he),vz hn,c5]
    refine ⟨x.dir,λc' a9=>by rw [y4] at a9;obtain rfl:=zr a9;exact ⟨_,_,z1⟩,by rw [I,y4];rfl,λq=>⟨i,x,c,y1,y2,y3,?_,he,hn,y4⟩⟩;rw [I] at q
    cases hx:x.dir with
    |true=>rw [hx] at q;exact absurd q dz
    |false=>rfl
   ·have I:DN p s=9:=by unfold DN;rw [vz (sU he),vu hn]
    exact ⟨false,(λc hc=>by rw [y] at hc;cases hc),by rw [I,y];rfl,λq=>by rw [I] at q;exact absurd q dz⟩
  have hl:=AB b2;have M:=AC (K9 tb ab b m k p.xs.length p.li C p.lb ff name s false dv c8 W2 G.tree ⟨om,om⟩ hl.2.1 hl.2.2.1 hl.2.2.2 U a0 a1 om b5);rw [<-a4.1] at M;obtain ⟨a7,b1,E⟩:=H3 R Z b4;have a8:=AC (xi U (xi a0 (xi a1 b7)));have O:=AC a4.2;obtain ⟨PB,a6⟩:=xE w1.heap.size;obtain ⟨mc,a3⟩:=xE (DN p s);rw [<-a3] at M O;clear F R Z b4 G U a0 a1 c3 b7 c4 D he b3 hl b5 a4 T HR HI b2;unfold Mb
  go_upto_region 4 with fail
  rw [<-AB a7];rw [<-a6] at E ⊢;clear a7 a6;have c0:cE W2 PB 0 (qP b 0):=E.cell rfl;have c1:cE W2 PB 1 (.string name):=E.cell rfl;have c2:cE W2 PB 2 (.string s):=E.cell rfl;have L:=AC a3;clear a3
  go_wp2_with fail
  refine M.mono ?_;rintro e w3 ⟨rfl,N⟩;have a2:=AC (b1.trans (N.mono b1.size));have Y:=AC (E.below N E.lt);have J:=AC N;clear N M c0 c1 c2;by_cases hz:mc=0
  ·obtain ⟨i,x,c,y1,y2,y3,y4,y5,y6,y7⟩:=AB O hz;subst hz;have hd:=AB a8;have X:=AC (JI b m k name s ff w3 (by unfold maxLen;omega) ((hd.1.below J hd.1.lt).cell hd.2.1) (hd.2.2.1.kept (BE J) sI));have HY:=AC (show DN p s=0/\∃(i:Nat) (x:Ino),p.xs[i]? =some x/\x.id=(AH p.xs s).n/\NB[i]? =some c/\x.dir=false/\(AH p.xs s).e=0/\(AH p.xs s).n≠0 from ⟨L.symm,i,x,y1,y2,y3,y4,y5,y6⟩);rw [y7] at X;have c0:cE w3 PB 0 (qP b 0):=Y.cell rfl;have c1:cE w3 PB 1 (.string name):=Y.cell rfl;have c2:cE w3 PB 2 (.string s):=Y.cell rfl;clear y1 y2 y3 y4 y5 y6 y7 hd L O a8;rw [show Lj 0= .returned .nilIface from rfl]
   go_wp2_with fail
   refine X.mono ?_;rintro e w4 ⟨rfl,b8⟩;have c7:=AC (a2.trans (b8.mono a2.size));clear b8 X c0 c1 c2;unfold BF;go_wp2
   go_ret2
   obtain ⟨q1,i,x,q2,q3,q4,q5,q6,q7⟩:=AB HY;exact ⟨AB c7,.inr ⟨q1,i,x,c,q2,q3,q4,q5,q6,q7,rfl⟩⟩
  ·have HP:=AC (show Q7 p NB s w (Pj mc) w3 from ⟨AB a2,.inl ⟨by rw [<-AB L];exact hz,by rw [<-AB L]⟩⟩);rw [show Lj mc=Bz mc from by unfold Lj;rw [vz hz]];clear hz L O;unfold Bz;go_wp2
   go_ret2
   exact AB HP
end
def fN (kb base gp cp:Nat) (L:List (AP×RL)) (w:World) (h5:w.cell? (xK kb 5)=some (sL gp 0 L.length cp)) (h:RPs w base gp cp L) (hn:L.length<=1000) (D:∀x∈L,x.1.st≠1):
  cT 25 #[qP kb 0] w λe w'=>e= .returned (.tuple #[])/\w'=w:=by
 obtain ⟨N,hN⟩:=xE L.length;rw [<-hN] at h5;have G:N<=1000:=om
 have HC:=AC (show ∀(k:Nat),k<N->∃s:Int,s≠1/\w.cell? (xK gp (k*31+2))=some (iV s) from λk hk=>by
  obtain ⟨x,hx⟩:∃x,L[k]? =some x:=⟨_,zz om⟩
  exact ⟨x.1.st,D x (zv hx),h.cell hx (by unfold rpc Au;rfl)⟩)
 clear h hn D hN;go_enter func25,ntmps25;go_wp2
 go_loopw [2] (λiv wr=>∃j:Nat,j<=N/\iv= iV j/\wr=w) (λiv _=>N-(intOf iv).toNat)
 case atStart=>exact ⟨0,om,rfl,rfl⟩
 case round=>
  obtain ⟨j,hj,rfl,hw⟩:=hrel;subst hw;have j0:(0:Int)<=(j:Int):=om;by_cases E:j<N
  ·have j1:(j:Int)<(N:Int):=om;obtain ⟨s,hs,cs⟩:=AB HC j E;obtain ⟨J1,B⟩:=xE (j+1);have F:(j:Int)+1=(J1:Int):=om;have C:=AC B;clear B;go_wp2;exact ⟨⟨J1,o1 (AB C),rfl,trivial⟩,by have:=AB C;simp only [intOf];omega⟩
  ·have j1:¬(j:Int)<(N:Int):=om;go_wp2;go_end0;exact ⟨rfl,rfl⟩
def aH (cb o B:Nat) (v:Value) (L N:List Int) (w w':World):Prop:=∃v' W1,w'=W1.setCell (xK cb o) v'/\w.grownBy W1 (AV v)/\QIs w' B v' (L++N)/\(AV v'=AV v\/AV v'=some w.heap.size)
def kF (B:Nat) (v x:Value) (L N:List Int) (w:World) (t:TypeId) (row:List Value) (hr:AE w cb t row) (ht:t≠5) (hv:row[o]? =some v) (h:QIs w B v L) (hx:Td w x N) (hB:B<=w.heap.size) (hl:L.length+N.length<=10000000):
  cT 158 #[qP cb o,x] w λe w'=>e= .returned (.tuple #[])/\aH cb o B v L N w w':=by
 obtain ⟨v',W1,F,hq,hg,D⟩:=VC w B v x L N h hx hB hl
 have C:∀R,AV v=some R->R≠cb:=λR hR=>by
  rcases h with ⟨rfl,_⟩|⟨R',X,T,Y,rfl,h2,_⟩
  ·cases hR
  ·have:R'=R:=by simpa [AV] using hR
   subst this;exact Ab h2 hr (λe=>ht e.symm)
 have I:=hr.lt;have E:AE W1 cb t row:=hr.grown hg (λe=>C cb e.symm rfl);have c0:cE w cb o v:=hr.cell hv;have d0:cE W1 cb o v:=E.cell hv;have f0:=E.frozen o
 have HP:=AC (show aH cb o B v L N w (W1.setCell (xK cb o) v') from ⟨v',W1,rfl,hg,hq.block (λR hR hl _=>by
  have G:R≠cb:=by
   rcases D with q|q
   ·exact C R (q.symm.trans hR)
   ·have:w.heap.size=R:=by rw [q] at hR;exact zr hR
    omega
  exact (AI (zj W1 (some cb)) o v').block R hl (sU G)),D⟩)
 obtain ⟨va,vn,vc,rfl⟩:∃a n c,v'= .slice a n c:=by obtain ⟨a,c,e⟩:=hq.len;exact ⟨a,_,c,e⟩
 have H:=AC F;clear F hq hg E D C h hx hr hv hl hB I ht;go_enter func158,ntmps158
 go_wp2_with (at_builtin;refine Lib.wpList_append_run _ rfl _ _ _ _ rfl _ _ rfl rfl _ _ H ?_)
 go_end0;exact ⟨rfl,AB HP⟩
def aI {a:Option Addr} {n c:Nat} {L:List Int} (hn:L.length=n) (ha:a=none->n=0/\c=0) (hv:∀q o,a=some (xK q o)->Am w q o L) (hs:∀x,a=some x->∃q o,x=(xK q o)) (hl:n<=1000000):cT 197 #[.slice a n c] w λe w'=>∃b k,e= .returned (.slice b n k)/\w'.ownsRow w.heap.size 5 1 (.slice b n k) n (AF L)/\Bw w w':=by
 cases a with
 |none=>
  obtain ⟨rfl,rfl⟩:=ha rfl;have hL:L=[]:=uz hn;subst hL;refine (AnyE.slices_Clone_nil Pd 0 0 w).mono ?_;rintro e w' ⟨rfl,rfl⟩
  exact ⟨none,0,rfl,uy _ _ _ _,zw _ _⟩
 |some x=>
  obtain ⟨q,o,rfl⟩:=hs x rfl;have B:=hv q o rfl;obtain ⟨i,hi,E,F,G⟩:=info_parts iu;refine (AnyE.slices_Clone Pd i (.int .u8 0) 1 1 hi E F G rfl dz sizeOf5 q o n c (AF L) w (by rw [AG];omega) (by unfold maxLen;omega) om (λj u hj=> ?_) (Dd L)).mono ?_
  ·have C:=(zy.1 hj).1;rw [AG] at C;rw [B j C,<-AN L j C];exact hj
  ·rintro e w' ⟨v',rfl,ho,D,hb⟩;have ho:w'.ownsRow w.heap.size 5 1 v' n (AF L):=ho;rcases ho.2 with ⟨rfl,h0⟩|⟨g,H,I,B,_⟩
   ·exact absurd rfl D
   ·subst B;exact ⟨_,_,rfl,ho,hb⟩
def VD (cb o B:Nat) (v:Value) (L:List Int) (n:Nat) (w:World) (e:Ending) (w':World):Prop:=∃b k v' W1,e= .returned (.slice b n k)/\w'=W1.setCell (xK cb o) v'/\Bw w W1/\w'.ownsRow w.heap.size 5 1 (.slice b n k) n (AF (L.take n))/\QIs w' B v' (L.drop n)/\AV v'=AV v
def fu (B:Nat) (v:Value) (L:List Int) (C:Int) (w:World) (t:TypeId) (row:List Value) (hr:AE w cb t row) (ht:t≠5) (hv:row[o]? =some v) (h:QIs w B v L) (hm:0<=C/\C<=10000000) (hl:L.length<=1000000) (hB:B<=w.heap.size):
  cT 159 #[qP cb o,iV C] w (VD cb o B v L (min C.toNat L.length) w):=by
 obtain ⟨n,hn⟩:=xE (min C.toNat L.length);obtain ⟨a,c,X⟩:∃a c,v= .slice a L.length c:=h.len;subst X;have O:n<=L.length:=om;obtain ⟨hq,_,V,G,J⟩:=h.drop n O;obtain ⟨D,E⟩:=xE L.length;have c0:w.cell? (xK cb o)=some (.slice a D c):=by rw [E];exact hr.cell hv
 have T:=AC (aI (a:=a) (n:=n) (c:=c) (L:=L.take n) w (by rw [yr];omega) (λe=>⟨o1 (G e),G e⟩) (λq o e j hj=>by
  subst e;rw [yr] at hj
  rw [h.view j om,zk,zk,xq,vu om]) J om)
 rw [<-hn];have U:min C (D:Int)=((n:Nat):Int):=om;have k1:(0:Int)<=(n:Int):=om;have k2:(n:Int)<=(c:Int):=om;have k3:(n:Int)<=(D:Int):=om;obtain ⟨HQ,HR,HV⟩:=H3 hq hr hv
 have HS:=AC (show n<=D/\D=L.length/\(AV (.slice (if c=n then a else a.map (λx=>x.add n)) (D-n) (c-n))=AV (.slice a L.length c)) from ⟨om,E,by
  cases a with
  |none=>split<;>rfl
  |some x=>
   obtain ⟨q,o,rfl⟩:=J x rfl;split
   ·rfl
   ·show some (((xK q o):Addr).add n).block=some q
    rw [Addr.add_mid]⟩)
 have HT:=AC ht;clear h hn hl O E hr hv ht hq V G J hm hB;go_enter func159,ntmps159
 go_wp2_with fail
 refine T.mono ?_;rintro e w1 ⟨b,kk,rfl,ho,M⟩;have I:=HR.below M HR.lt;clear c0;have c0:w1.cell? (xK cb o)=some (.slice a D c):=by rw [HS.2.1];exact I.cell (AB HV)
 have f0:=I.frozen o;have HO:=AC ho;have F:=AC M;clear ho M I T;have Y:=HR.lt
 have HP:=AC (show VD cb o B (.slice a L.length c) L n w (.returned (.slice b n kk)) (w1.setCell (xK cb o) (.slice (if c=n then a else a.map (λx=>x.add n)) (D-n) (c-n))) from by
  refine ⟨b,kk,_,w1,rfl,rfl,AB F,HO.kept (AI (zj w1 (some cb)) o _) (.inr (λq=>o1 (HO.lt _ q))),?_,HS.2.2⟩;have hq:=HQ.below F;rw [<-HS.2.1] at hq;refine hq.block λR hR hl hx=> ?_;obtain ⟨l,hx⟩:=hx
  exact (AI (zj w1 (some cb)) o _).block R hl (by
   simp only [ne_eq,Option.some.injEq]
   exact Ab hx (HR.below F HR.lt) (λe=>(AB HT) e.symm)))
 clear Y HQ HO F;by_cases N:c=n
 ·subst N;have hp:=AB HP;rw [vu rfl,ya] at hp;have H:=AC hp;clear hp HP HS HV;go_wp2;go_ret;exact AB H
 ·have hp:=AB HP;rw [vz N] at hp;have H:=AC hp;clear hp HP;go_wp2;go_ret;exact AB H
end Go.Proofs.YtpcjkidgohpeoaaGreatDoor
