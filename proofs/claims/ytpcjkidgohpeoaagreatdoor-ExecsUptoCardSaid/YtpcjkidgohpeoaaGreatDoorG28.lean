import Derived.Test.YtpcjkidgohpeoaaGreatDoorG26
import Derived.Test.YtpcjkidgohpeoaaGreatDoorG27
set_option maxRecDepth 100000
set_option maxHeartbeats 4000000
set_option linter.all false
namespace Go.Proofs.YtpcjkidgohpeoaaGreatDoor
open RowKit Maps Proofs.Tryz
variable {P:Program} {ops:Array Oper} {S:World->Prop} {w:World} {o:Oper} {cb kb pm n b N:Nat} {d:PD} {PL:List (Int×Nat)} {D:Nat->PD} {x:Int×Nat} {A:Act}
def ew {md:Region.Mode} {Q:Exit->Act->World->Prop} {fuel:Nat} {B:Array Bool} {a:Act} {i:Nat} {rs:List Nat} (hi:ops[i]? =some o) (C:o.guard=none) (t:TypeId) (x:Operand) (ho:o.op= .box t x) (cs:List Value) (hx:a.eval x= .agg cs.toArray) (N:Nat) (hN:w.heap.size=N) (d:Option Tmp) (hd:o.dst=d) (hS:S (w.alloc (.cells cs.toArray t))) (h:S (w.alloc (.cells cs.toArray t))->wpAnyH P md ops Q S fuel (B.setIfInBounds i true) (a.put d (qP N 0)) (w.alloc (.cells cs.toArray t))) (hs:AllReadyH P md ops Q S fuel B a w rs):
  AllReadyH P md ops Q S fuel B a w (i::rs):=
 vq hi (λK hK=>by
  have hw:Region.wanted o (yielded ops a.tmps)=true:=by simp [Region.wanted,C]
  rw [vu hw];subst hd hN;unfold Oper.wp execOp;simp only [ho,hx,Value.cells,uk,Instr.box,newVar,newRow,run_newObj_alloc,sr,ye]
  exact hK.out _ _ hS h) hs
def IB (C T v:List Value) (j:Nat):splice (C++T) (C.length+j) v=C++splice T j v:=by
 unfold splice;rw [List.take_append,rm];have h1:C.take (C.length+j)=C:=xx om;have h2:C.drop (C.length+j+v.length)=[]:=xw om;rw [h1,h2,show C.length+j-C.length=j by omega,show C.length+j+v.length-C.length=j+v.length by omega];simp
def XY (w:World):((#[{name:= "CPU",type:=188,offset:=0,embedded:=true,tag:= "",pkgPath:= "",byteOffset:=0},{name:= "pid",type:=3,offset:=65809,embedded:=false,tag:= "",pkgPath:= "tinyos/kernel",byteOffset:=65928},{name:= "parent",type:=3,offset:=65810,embedded:=false,tag:= "",pkgPath:= "tinyos/kernel",byteOffset:=65936},{name:= "state",type:=157,offset:=65811,embedded:=false,tag:= "",pkgPath:= "tinyos/kernel",byteOffset:=65944},{name:= "status",type:=3,offset:=65812,embedded:=false,tag:= "",pkgPath:= "tinyos/kernel",byteOffset:=65952},{name:= "wakes",type:=3,offset:=65813,embedded:=false,tag:= "",pkgPath:= "tinyos/kernel",byteOffset:=65960},{name:= "fds",type:=191,offset:=65814,embedded:=false,tag:= "",pkgPath:= "tinyos/kernel",byteOffset:=65968}]:Array Field).mapM λf=>(do pure (f.offset,<-sizeOf f.type):Sem (Nat×Nat))).run prog w= .ok #[(0,65809),(65809,1),(65810,1),(65811,1),(65812,1),(65813,1),(65814,8)] w:=by
 simp [sizeOf188,sizeOf3,sizeOf157,sizeOf191]
def JP (CR XS:List Value) (k xp:Int):List Value:=CR++([iV k,iV xp,iV 0,iV 0,iV 0]++XS)
def RO:List Value:=[iV 0,iV 0,iV 0,iV 0,iV 0]
def Zc (CR XS:List Value) (k xp:Int) (hC:CR.length=65809) (hX:XS.length=8) (w:World):(Instr.build 193 #[(0,.agg CR.toArray),(1,iV k),(2,iV xp),(6,.agg XS.toArray)]).run prog w= .ok (.agg (JP CR XS k xp).toArray) w:=by
 have E:=zeroValue193 w;have hl:=TD;generalize zeroCells193=ZA at E hl;obtain ⟨Z⟩:=ZA;have hl:Z=AX 0 Co Af 0 0 0 0 0 GA:=hl;obtain ⟨C0,C⟩:=xE (CK 0 Co Af);have B:C0.length=65809:=by rw [C];exact Bj C5 CY
 have hl:Z=C0++(RO++GA):=by rw [hl,C];rfl
 clear C;subst hl;have h5:RO.length=5:=rfl;have h8:GA.length=8:=rfl
 have F:Instr.fill (λi=>(#[(0,65809),(65809,1),(65810,1),(65811,1),(65812,1),(65813,1),(65814,8)]:Array (Nat×Nat))[i]?) (Value.agg (C0++(RO++GA)).toArray).cells [(0,.agg CR.toArray),(1,iV k),(2,iV xp),(6,.agg XS.toArray)]=some (JP CR XS k xp).toArray:=by
  show Instr.fill _ (C0++(RO++GA)).toArray _=_
  have e0:splice (C0++(RO++GA)) 0 CR=CR++(RO++GA):=by
   unfold splice;rw [List.take_zero,zq,hC,<-B,List.drop_left];rfl
  have e1:splice (CR++(RO++GA)) 65809 [iV k]=CR++([iV k,iV 0,iV 0,iV 0,iV 0]++GA):=by
   rw [show 65809=CR.length+0 by omega,IB];rfl
  have e2:splice (CR++([iV k,iV 0,iV 0,iV 0,iV 0]++GA)) 65810 [iV xp]=CR++([iV k,iV xp,iV 0,iV 0,iV 0]++GA):=by
   rw [show 65810=CR.length+1 by omega,IB];rfl
  have e3:splice (CR++([iV k,iV xp,iV 0,iV 0,iV 0]++GA)) 65814 XS=CR++([iV k,iV xp,iV 0,iV 0,iV 0]++XS):=by
   rw [show 65814=CR.length+5 by omega,IB];unfold splice;rw [hX];show CR++([iV k,iV xp,iV 0,iV 0,iV 0]++(XS++[]))=_;rw [xr]
  rw [Dw _ _ 0 0 65809 _ _ rfl (by simp [Value.cells,hC]) (by simp [B]),show (Value.agg CR.toArray).cells.toList=CR from rfl,e0,
   Dw _ _ 1 65809 1 _ _ rfl rfl (by simp [hC,h5,h8]),show (Value.int .i64 k).cells.toList=[iV k] from rfl,e1,
   Dw _ _ 2 65810 1 _ _ rfl rfl (by simp [hC,h5,h8]),show (Value.int .i64 xp).cells.toList=[iV xp] from rfl,e2,
   Dw _ _ 6 65814 8 _ _ rfl (by simp [Value.cells,hX]) (by simp [hC,h5,h8]),show (Value.agg XS.toArray).cells.toList=XS from rfl,e3]
  rfl
 unfold Instr.build;simp only [uk,E,ye,ue underlying193,XY,F];rfl
def IC (d:PD) (k:Int):PD:={d with p:={d.p with pid:=k,par:=d.p.pid,st:=0,su:=0,le:=0},wk:=0}
def XZ (d:PD) (k:Int):Cu (IC d k)=JP (CK d.p.pc d.p.R (AW d.p.PS)) d.xs k d.p.pid:=rfl
def lenOf (D:Nat->PD) (x:Int×Nat):Nat:=(D x.2).p.PS.length
def Xa (h:PDW cb d) (j:Nat) (v:Value) (hv:(AW d.p.PS)[j]? =some v):(Cu d)[17+j]? =some v:=by
 unfold Cu AX CK;have hl:=(zy.1 hv).1;rw [zo (by simp [h.regs];omega),zn (by simp [h.regs])];simpa [h.regs] using hv
def XK.space (h:XK w kb pm n cb PL D) (hx:x∈PL):w.rangeAt x.2 17 (AW (D x.2).p.PS):=λj v hv=>(h.each x hx).1.cell (Xa (h.each x hx).2.1 j v hv)
def XK.perms (h:XK w kb pm n cb PL D) (hx:x∈PL):Hy w x.2 (D x.2).p.PS:=λj hj=>(Hj (h.each x hx).2.1.pages (h.space hx) hj).1
def XK.pagesOf (h:XK w kb pm n cb PL D):JN w PL (lenOf D):=λx hx=>⟨(h.each x hx).1.lt,(D x.2).p.PS,h.perms hx,(h.each x hx).2.1.pages,rfl,Ms (h.each x hx).2.1.pages⟩
def FkS (KP kb pm n:Nat) (lp:Int) (PL:List (Int×Nat)) (w:World):Prop:=w.cell? (xK KP 0)=some (qP kb 0)/\w.cell? (xK kb 9)=some (.map (some pm))/\w.cell? (xK kb 0)=some (iV lp)/\AZ w pm n PL
def lx (KP kb pm xb:Nat) (ROW:List Value) (w:World):Prop:=w.cell? (xK KP 0)=some (qP kb 0)/\w.cell? (xK kb 9)=some (.map (some pm))/\AE w xb 193 ROW
def RQ (d:cE w b 0 (qP kb 0)):(Instr.loadAt 56 (qP b 0)).run prog w= .ok (qP kb 0) w:=gS
def XK.ins (h:XK w kb pm n cb PL D) (hn:n<maxLen) {k:Int} (hk: -1000000<=k/\k<=1000000) (hx:∀y∈PL,y.1≠k) (hb:AE w b 193 (Cu d)) (hd:PDW cb d) (hp:d.p.pid=k) (C:∀y∈PL,y.2≠b) (F:b≠kb) (E:b≠pm):
  ∃w',(Instr.mapUpdate 104 (.map (some pm)) (iV k) (qP b 0)).run prog w= .ok () w'/\XK w' kb pm (n+1) cb (Mk PL (k,b)) (upd D b d)/\w.grownBy w' (some pm):=by
 obtain ⟨w',hr,hm,hg⟩:=h.map.put hn k b hk hx;have B:=Fw (x:=(k,b)) hx;refine ⟨w',hr,⟨hg.cell h.k9 (sU h.kpm),hg.cell h.k6 (sU h.kpm),yz h.kl hg.size,hm,λy hy=> ?_,λy hy=> ?_,λy hy z hz e=> ?_,h.kpm⟩,hg⟩
 ·rcases (B y).1 hy with rfl|q
  ·rw [Fx];exact ⟨hb.grown hg (sU E),hd,hp⟩
  ·rw [GG _ _ (C y q)];exact ⟨(h.each y q).1.grown hg (by have:=(h.apart y q).2;simpa using this),(h.each y q).2⟩
 ·rcases (B y).1 hy with rfl|q
  ·exact ⟨F,E⟩
  ·exact h.apart y q
 ·rcases (B y).1 hy with rfl|q
  ·rcases (B z).1 hz with rfl|q'
   ·rfl
   ·exact absurd e.symm (C z q')
  ·rcases (B z).1 hz with rfl|q'
   ·exact absurd e (C y q)
   ·exact h.one y q z q' e
def Xb (kb pm n cb:Nat) (PL:List (Int×Nat)) (D:Nat->PD) (x:Int×Nat) (lp lf:Int) (w:World) (e:Ending) (w':World):Prop:=
 (lp<=(PL.length:Int)/\e=Ey 19/\Bw w w')\/
 ((PL.length:Int)<lp/\lf-((PL.map (lenOf D)).sum:Int)<(lenOf D x:Int)/\e=Ey 7/\Bw w w')\/
 ((PL.length:Int)<lp/\(lenOf D x:Int)<=lf-((PL.map (lenOf D)).sum:Int)/\∃(k b:Nat),Uv PL k/\e=EJ k 0 sN 0/\w.heap.size<=b/\XK w' kb pm (n+1) cb (Mk PL ((k:Int),b)) (upd D b (IC (D x.2) k))/\At [pm] w w')
def e9 (kb pm n cb:Nat) (PL:List (Int×Nat)) (D:Nat->PD) (x:Int×Nat) (lp lf:Int) (c0 c1 c2 c3 c4 c5:Value) (w:World) (h:XK w kb pm n cb PL D) (hx:x∈PL) (hn:PL.length<=1000) (X:n<maxLen) (d8:cE w kb 0 (iV lp)) (f8:cE w kb 1 (iV lf)) (O:(PL.map (lenOf D)).sum<=1000000) (d4:0<=lf/\lf<=1000000):
  cT 223 #[qP kb 0,qP x.2 0,.agg #[c0,c1,c2,c3,c4,c5]] w (Xb kb pm n cb PL D x lp lf w):=by
 obtain ⟨W0,a1⟩:=xE (w.alloc (Obj.cells #[qP kb 0] 56));have b5:Bw w W0:=by rw [a1];exact bA
 have d6:W0.heap.size=w.heap.size+1:=by rw [a1];simp
 have I:AE W0 w.heap.size 56 [qP kb 0]:=by rw [a1];exact AE.new w 56 _
 obtain ⟨F,f3,a6⟩:=DO W0 c0 c1 c2 c3 c4 c5;obtain ⟨W2,b6⟩:=xE ((W0.alloc (Obj.cells #[c0,c1,c2,c3,c4,c5] 51)).alloc (Obj.cells #[iV 0,iV 0,sN] 140));rw [<-b6] at F f3 a6;rw [d6] at F;have B:=I.below a6 I.lt;have a0:Bw w W2:=b5.trans (a6.mono b5.size);have G:=h.below a0;obtain ⟨KP,d3⟩:=xE w.heap.size;rw [<-d3] at B F;have a7:cE W2 KP 0 (qP kb 0):=B.cell rfl;have T:W2.cell? (xK kb 0)=some (.int .i64 lp):=by rw [a0.cell (p:=(xK kb 0)) h.kl];exact d8
 have U:W2.cell? (xK kb 1)=some (.int .i64 lf):=by rw [a0.cell (p:=(xK kb 1)) h.kl];exact f8
 have d0:=F.cell (j:=0) rfl;have d1:=F.cell (j:=1) rfl;have d2:=F.cell (j:=2) rfl;have f0:=F.frozen 0;have f1:=F.frozen 1;have f2:=F.frozen 2;have j1:=AC (show FkS KP kb pm n lp PL W2.drew from ⟨a7,G.k9,T,G.map⟩);obtain ⟨L,hL⟩:=xE PL.length;obtain ⟨C,hC⟩:=xE (lenOf D x);obtain ⟨FR,c8⟩:=xE (lf-((PL.map (lenOf D)).sum:Int));obtain ⟨qb,b7⟩:∃qb:Bool,qb=decide ((L:Int)>=lp):=⟨_,rfl⟩;obtain ⟨qm,b4⟩:∃qm:Bool,qm=decide ((C:Int)>FR):=⟨_,rfl⟩;have R1:Hid (∀w':World,FkS KP kb pm n lp PL w'->(Instr.loadAt 56 (qP KP 0)).run prog w'= .ok (qP kb 0) w'):=λw' h=>RQ h.1;have i2:Hid (∀w':World,w'.cell? (xK KP 0)=some (qP kb 0)->(Instr.loadAt 56 (qP KP 0)).run prog w'= .ok (qP kb 0) w'):=λw' h=>RQ h
 have R2:Hid (∀w':World,FkS KP kb pm n lp PL w'->(Instr.loadAt 104 (qP kb 9)).run prog w'= .ok (.map (some pm)) w'):=λw' h=>Nl h.2.1;have R3:Hid (∀w':World,FkS KP kb pm n lp PL w'->(Instr.loadAt 3 (qP kb 0)).run prog w'= .ok (iV lp) w'):=λw' h=>Hk h.2.2.1;have R4:Hid (∀w':World,FkS KP kb pm n lp PL w'->∀ty,(Builtin.len_ #[104] ty #[.map (some pm)]).run prog w'= .ok (iV (L:Nat)) w'):=λw' h ty=>by rw [hL];exact h.2.2.2.len ty
 have R5:=AC (show ∀w':World,((do eqGuard .geq 3 (.tmp 13) (.tmp 18) (iV (L:Nat)) (iV lp);binOp .geq 3 (iV (L:Nat)) (iV lp):Sem Value)).run prog w'= .ok (.bool qb) w' from λw'=>by
  rw [b7];clear h hx hn X d8 f8 O d4 a1 b5 d6 I F f3 a6 b6 B a0 G a7 T U d0 d1 d2 f0 f1 f2 b7 b4 c8
  go_simp)
 have R6:=AC (show ∀w':World,((do eqGuard .gtr 3 (.tmp 26) (.tmp 28) (iV (C:Nat)) (iV FR);binOp .gtr 3 (iV (C:Nat)) (iV FR):Sem Value)).run prog w'= .ok (.bool qm) w' from λw'=>by
  rw [b4];clear h hx hn X d8 f8 O d4 a1 b5 d6 I F f3 a6 b6 B a0 G a7 T U d0 d1 d2 f0 f1 f2 b7 b4 c8
  go_simp)
 obtain ⟨QQ,h6⟩:=xE (Xb kb pm n cb PL D x lp lf w);rw [<-h6]
 have i4:=AC (show ∀W,Bw W2 W->cT 74 #[qP kb 0] W λe w'=>e= .returned (iV FR)/\Bw W w' from λW hb=>by
  rw [c8];have hk:=G.below hb
  exact Gi kb pm n lf PL (lenOf D) W ((hb.cell (p:=(xK kb 1)) G.kl).trans U) hk.k9 hk.map hk.pagesOf O d4)
 have h4:=AC (show ∀W,Bw W2 W->cT 75 #[qP x.2 17] W λe w'=>e= .returned (iV (C:Nat))/\w'=W from λW hb=>by
  rw [hC]
  exact G1 x.2 17 (D x.2).p.PS W (h.each x hx).2.1.pages ((G.below hb).perms hx))
 have i7:=AC (λ(W:World) (hb:Bw W2 W)=>Sf KP kb pm n PL W ((hb.cell (p:=(xK KP 0)) B.lt).trans a7) (G.below hb).k9 (G.below hb).map hn);have f5:Hid (∀W,Bw W2 W->W.cell? (xK KP 0)=some (qP kb 0)):=λW hb=>by rw [hb.cell (p:=(xK KP 0)) B.lt];exact a7
 have a9:Hid (Bw W2 W2.drew.drew):=((zw _ _).drew).drew;have k1:Hid (Bw W2 W2.drew):=(zw _ _).drew;have HQ:=AC h6;have h9:=AC (show W2=((w.alloc (Obj.cells #[qP kb 0] 56)).alloc (Obj.cells #[c0,c1,c2,c3,c4,c5] 51)).alloc (Obj.cells #[iV 0,iV 0,sN] 140) from by rw [b6,a1]);obtain ⟨a5,g5,i8,f9,HX⟩:=H5 a0 F G d3 hx;have HN:=AC (xi hn X);have d5:=AC (xi hL (xi hC (xi c8 (xi b7 b4))));have j6:=AC (show kb<w.heap.size/\pm<w.heap.size/\∀y∈PL,y.2<w.heap.size from ⟨h.kl,h.map.lt,λy hy=>(h.each y hy).1.lt⟩);obtain ⟨xp,xb⟩:=x;simp only at h4 ⊢;clear h hx hn X d8 f8 O d4 a1 b5 d6 I f3 a6 b6 B a0 G a7 T U b7 b4 c8 hL hC h6 F;go_enter func223,ntmps223
 go_upto_region 1 with fail
 rw [<-AB h9,<-d3];clear d3 h9;refine Ak ?_;intro A hA;have e3:A.eval (.tmp 3)= qP KP 0:=eH hA;have c6:A.tmps.size=56:=eZ hA;have HA:=AC hA;clear hA;refine xf (S:=FkS KP kb pm n lp PL) kf j1 (λhS=> ?_);refine tq 0 9 rfl (yl R1) hS (tq 1 10 rfl (yN (xK kb 0)) hS (tq 2 11 rfl (yF (qP kb 0) (qP kb 9)) hS (tq 3 12 rfl (yl R2) hS (tq 4 13 rfl (Do rfl _ _ rfl (.map (some pm)) sE (iV (L:Nat)) (λw' h=>AB R4 w' h _)) hS (tq 5 14 rfl (yl R1) hS ?_)))));refine tq 6 15 rfl (yN (xK kb 0)) hS (tq 7 16 rfl (yF (qP kb 0) (qP kb 0)) hS (tq 8 17 rfl (yF (qP kb 0) (qP kb 0)) hS (tq 9 18 rfl (yl R3) hS ?_)))
 refine tq 10 19 rfl (yB (iV (L:Nat)) (iV lp) (.bool qb) R5) hS ?_;refine vg kf ?_ _;rw [AB HA];simp only [Act.put,zl,zh,zi];clear hS HA e3 c6 A j1 R1 R2 R3 R4 R5;clear d0 d1 d2 f0 f1 f2
 cases qb with
 |true=>
  obtain ⟨W3,f6⟩:=xE W2.drew;have V:AE W3 (KP+1+1) 140 [iV 0,iV 0,sN]:=g5.heap (by rw [f6];rfl);have i0:Bw w W3:=by rw [f6];exact a5.trans (k1.mono a5.size)
  rw [<-f6];obtain ⟨r0,r1,r2,rb⟩:=Cm (x:= iV 0) (y:= iV 0) (z:= sN) V i0 (o1 (AB f9));have g1:=AC rb;have d0:=V.cell (j:=0) rfl;have d1:=V.cell (j:=1) rfl;have d2:=V.cell (j:=2) rfl;have f0:=V.frozen 0;have f1:=V.frozen 1;have f2:=V.frozen 2;clear i0 f6;clear rb V;go_wp2;refine xh (v:= .tuple #[Br 0 0 sN,.iface 40 (iV 19)]) (by simp [results,results223,go_sem,Br,r0,r1,r2]) rfl ?_;rw [AB HQ];refine .inl ⟨?_,rfl,AB g1⟩;have:=tu d5.2.2.2.1.symm;have:=d5.1
  omega
 |false=>
  go_upto_region 3 with fail
  refine Ak ?_;intro A hA;have e1:A.eval (.tmp 1)= qP xb 0:=eH hA;have e3:A.eval (.tmp 3)= qP KP 0:=eH hA;have c6:A.tmps.size=56:=eZ hA;have HA:=AC hA;clear hA;refine xf (S:=λw'=>w'.cell? (xK KP 0)=some (qP kb 0)) kf (AB f5 _ a9) (λhS=> ?_);refine tq 0 22 rfl (yM (qP xb 0)) hS (tq 1 23 rfl (yN (xK xb 0)) hS (tq 2 24 rfl (yF (qP xb 0) (qP xb 0)) hS (tq 3 25 rfl (yF (qP xb 0) (qP xb 17)) hS (tq 5 27 rfl (yl i2) hS ?_))));refine rdy [4] kf (vq rfl (λK hK=> ?_) vr);refine Bn rfl 75 _ _ rfl #[qP xb 17] sE Q9 _ (λe w' h=>⟨_,h.1⟩) (AB h4 _ a9) (some 26) rfl ?_;rintro r4 w4 ⟨h1,j9⟩
  have h1:r4= iV (C:Nat):=by injection h1
  subst h1;subst j9;refine hK.out _ _ (AB f5 _ a9) (λk2=> ?_);clear hK K;refine rdy [6] kf (vq rfl (λK hK=> ?_) vr);refine Bn rfl 74 _ _ rfl #[qP kb 0] sE Ko _ (λe w' h=>⟨_,h.1⟩) (AB i4 _ a9) (some 28) rfl ?_;rintro r6 w6 ⟨E,i3⟩;have E:r6= iV FR:=by injection E
  subst E;have g8:Bw W2 w6:=a9.trans (i3.mono a9.size);have Z:=AC g8;refine hK.out _ _ (AB f5 w6 g8) (λj0=> ?_);clear hK K;refine tq 7 29 rfl (yB (iV (C:Nat)) (iV FR) (.bool qm) R6) j0 ?_;refine vg kf ?_ _;rw [AB HA];simp only [Act.put,zl,zh,zi];clear hS k2 j0 i3 g8 HA e1 e3 c6 A h4 i4 R6;have E:=g5.below Z g5.lt;have g2:=AC E
  cases qm with
  |true=>
   have d0:=E.cell (j:=0) rfl;have d1:=E.cell (j:=1) rfl;have d2:=E.cell (j:=2) rfl;have f0:=E.frozen 0;have f1:=E.frozen 1;have f2:=E.frozen 2;obtain ⟨r0,r1,r2,rb⟩:=Cm (x:= iV 0) (y:= iV 0) (z:= sN) E (a5.trans (Z.mono a5.size)) (o1 (AB f9));have g1:=AC rb;clear rb E;go_wp2;refine xh (v:= .tuple #[Br 0 0 sN,.iface 40 (iV 7)]) (by simp [results,results223,go_sem,Br,r0,r1,r2]) rfl ?_;rw [AB HQ];obtain ⟨z1,z2,z3,z4,z5⟩:=AB d5;refine .inr (.inl ⟨?_,?_,rfl,AB g1⟩)
   ·have:=tr z4.symm;omega
   ·have:=tu z5.symm
    omega
  |false=>
   have i5:=AC (AB i7 w6 Z);clear E i7
   go_wp2_with fail
   refine i5.mono ?_;rintro e w7 ⟨⟨k,hk,rfl⟩,k5⟩;subst k5;have k3:=XV hk.used;obtain ⟨hn,X⟩:=AB HN;have d9:=i8.below Z;obtain ⟨hh,hd,J⟩:=d9.each (xp,xb) HX;simp only at hh hd J;obtain ⟨d,g9⟩:=xE (D xb);rw [<-g9] at hh hd J;obtain ⟨CR,f7⟩:=xE (CK d.p.pc d.p.R (AW d.p.PS));obtain ⟨a2,M⟩:=xE (Cu d);obtain ⟨XS,f4⟩:=xE d.xs;obtain ⟨NR,g6⟩:=xE (JP CR XS (k:Int) xp);have Y:CR.length=65809:=by rw [f7];exact Bj hd.regs hd.space
   have g4:XS.length=8:=by rw [f4];exact hd.fds.1
   have b1:NR=Cu (IC d k):=by rw [g6,f7,f4,XZ,J]
   rw [<-M] at hh;have j2:=AC (show (prog.info? 188).map (·.size)=some CR.length from by rw [bf,Y]);have h8:=AC (show (prog.info? 191).map (·.size)=some XS.length from by rw [Ph,g4])
   have RC:=AC (show ∀w':World,AE w' xb 193 a2->w'.rangeAt xb 0 CR from λw' h j v hv=>by
    refine h.cell ?_;rw [M,zq];unfold Cu AX;rw [<-f7,zo (zy.1 hv).1]
    exact hv)
   have RX:=AC (show ∀w':World,AE w' xb 193 a2->w'.rangeAt xb 65814 XS from λw' h j v hv=>by
    refine h.cell ?_;rw [M,show 65814+j=65809+(5+j) by omega];refine D4 hd (5+j) v ?_;rw [zn sI,<-f4]
    simpa using hv)
   have RP:=AC (show ∀w':World,AE w' xb 193 a2->w'.cell? (xK xb 65809)=some (iV xp) from λw' h=>by
    rw [<-J];refine h.cell ?_;rw [M]
    exact D4 hd 0 _ rfl)
   have RB:=AC (Zc CR XS (k:Int) xp Y g4);rw [<-g6] at RB;have d7:=AB f5 w7 Z;have i6:=AC (show lx KP kb pm xb a2 w7.drew from ⟨d7,d9.k9,hh⟩);obtain ⟨NB,h3⟩:=xE w7.heap.size;have k0:Hid (w7.drew.heap.size=NB):=h3.symm;obtain ⟨wa,b0⟩:=xE (w7.drew.alloc (.cells NR.toArray 193));have a8:Bw w7 wa:=by rw [b0];exact ((zw _ _).drew).alloc (zx _) _
   have b3:=d9.below a8;have i1:AE wa NB 193 (Cu (IC d k)):=by rw [b0,h3,<-b1];exact AE.new w7.drew 193 NR
   have g3:=AB j6;have j3:=Z.size;have j4:=a5.size;have j5:=AB f9
   obtain ⟨w8,b8,h0,c9⟩:=b3.ins X (k:=(k:Int)) (b:=NB) (d:=IC d k) om (λy hy e=>by
    have:=DJ b3.map.2.1 hy;rw [e,hk.free] at this
    cases this) i1 ⟨hd.regs,hd.pages,hd.fds⟩ rfl (λy hy=>o1 (g3.2.2 y hy)) om om
   have h5:=AC (show lx KP kb pm xb a2 (w7.drew.alloc (.cells NR.toArray 193)) from by
    rw [<-b0]
    exact ⟨by rw [a8.cell (p:=(xK KP 0)) (zu _ _ d7)];exact d7,b3.k9,hh.below a8 hh.lt⟩)
   have c7:KP≠pm:=om;have b9:xb≠pm:=(i8.apart (xp,xb) HX).2
   have i9:=AC (show lx KP kb pm xb a2 w8 from by
    have h7:=AB h5;rw [<-b0] at h7
    exact ⟨c9.cell h7.1 (sU c7),h0.k9,h7.2.2.grown c9 (sU b9)⟩)
   have a4:=AC b8;rw [b0] at a4;have H:AE w8 (KP+1+1) 140 [iV 0,iV 0,sN]:=(g2.below a8 g2.lt).grown c9 sO;have b2:At [pm] w w8:=((At.of_below a5).trans ((At.of_below Z).trans (At.of_below a8))).trans (At.of_grown c9 sI);obtain ⟨j7,k6,h2,j8,g7⟩:=H5 h0 H b2 hk g9;have g0:=AC (show w.heap.size<=NB from om)
   have a3:=AC (show kb≠KP+1+1/\pm≠KP+1+1/\∀y∈Mk PL ((k:Int),NB),y.2≠KP+1+1 from ⟨om,om,λy hy=>by
    have k7:=g2.lt
    rcases (Fw (x:=((k:Int),NB)) (λz hz e=>by
     have:=DJ b3.map.2.1 hz;rw [e,hk.free] at this
     cases this) y).1 hy with rfl|q
    ·show NB≠KP+1+1;omega
    ·have:=g3.2.2 y q
     omega⟩)
   clear hk k3 hn X d9 hh hd J g9 f7 M f4 g6 Y g4 b1 d7 h3 b0 a8 b3 i1 g3 j3 j4 j5 b8 h0 c9 H b2 c7 b9 i5
   go_upto_region 6 with fail
   refine Ak ?_;intro A hA;have e1:A.eval (.tmp 1)= qP xb 0:=eH hA;have e3:A.eval (.tmp 3)= qP KP 0:=eH hA;have e8:A.eval (.tmp 8)= iV (k:Nat):=eH hA;have c6:A.tmps.size=56:=eZ hA;have HA:=AC hA;clear hA;refine xf (S:=lx KP kb pm xb a2) kf i6 (λhS=> ?_);refine tq 0 34 rfl (yl (λw' h=>AB i2 w' h.1)) hS (tq 1 35 rfl (yN (xK kb 0)) hS (tq 2 36 rfl (yF (qP kb 0) (qP kb 9)) hS (tq 3 37 rfl (yl (λw' h=>Nl h.2.1)) hS (tq 4 38 rfl (yM (iV (k:Nat))) hS (tq 5 39 rfl (yM (qP xb 0)) hS ?_)))));refine tq 6 40 rfl (yN (xK xb 0)) hS (tq 7 41 rfl (yF (qP xb 0) (qP xb 0)) hS ?_)
   refine tq 8 42 rfl (yieldsIf_load_mid (by simp [Region.wanted]) 188 _ rfl xb 0 sE CR _ (λw' h=>AB RC w' h.2.2) underlying188 rfl (AB j2)) hS (tq 9 43 rfl (yM (iV (k:Nat))) hS (tq 10 44 rfl (yM (qP xb 0)) hS (tq 11 45 rfl (yN (xK xb 0)) hS (tq 12 46 rfl (yF (qP xb 0) (qP xb 65809)) hS (tq 13 47 rfl (yl (λw' h=>Hk (AB RP w' h.2.2))) hS ?_)))));refine tq 14 48 rfl (yM (qP xb 0)) hS (tq 15 49 rfl (yN (xK xb 0)) hS (tq 16 50 rfl (yF (qP xb 0) (qP xb 65814)) hS (tq 17 51 rfl (yieldsIf_load_mid (by simp [Region.wanted]) 191 _ rfl xb 65814 sE XS _ (λw' h=>AB RX w' h.2.2) underlying191 rfl (AB h8)) hS ?_)))
   refine tq 18 52 rfl (EF rfl _ _ rfl #[(0,.agg CR.toArray),(1,iV (k:Nat)),(2,iV xp),(6,.agg XS.toArray)] sE (.agg NR.toArray) RB) hS ?_;refine rdy [19] kf (ew rfl rfl 193 (.tmp 52) rfl NR sE NB k0 (some 53) rfl h5 (λk4=> ?_) vr);refine rdy [20] kf (Me rfl rfl 104 (.tmp 37) (.tmp 38) (.tmp 53) rfl (.map (some pm)) (iV (k:Nat)) (qP NB 0) sE sE sE a4 rfl i9 ?_ vr);refine vg kf ?_ _;rw [AB HA];simp only [Act.put,zl,zh,zi];have H:=AB k6;have d0:=H.cell (j:=0) rfl;have d1:=H.cell (j:=1) rfl;have d2:=H.cell (j:=2) rfl;have f0:=H.frozen 0;have f1:=H.frozen 1;have f2:=H.frozen 2;obtain ⟨r0,r1,r2,_⟩:=Cm (x:= iV (k:Int)) (y:= iV 0) (z:= sN) H (zw 0 w8) (Nat.zero_le _);have hg:=FG (w:=w8) (b:=KP+1+1) (iV (k:Int)) (iV 0) sN
   have HF:=AC (xi (j7.grown hg a3.1 a3.2.1 a3.2.2) (h2.tail hg (o1 (AB f9))));clear H hg hS k4 HA e1 e3 e8 c6 A i6 h5 i9 a4 RB RC RX RP j2 h8;go_wp2;refine xh (v:= .tuple #[Br (k:Int) 0 sN,.nilIface]) (by simp [results,results223,go_sem,Br,r0,r1,r2]) rfl ?_;rw [AB HQ];obtain ⟨z1,z2,z3,z4,z5⟩:=AB d5;refine .inr (.inr ⟨?_,?_,k,NB,AB j8,rfl,AB g0,?_,HF.2⟩)
   ·have:=tr z4.symm;omega
   ·have:=tr z5.symm;omega
   ·have:=HF.1;rw [AB g7] at this;exact this
def Fe:List Value:=[.nilFunc,.func (.func 223) #[] #[],.func (.func 224) #[] #[],.func (.func 225) #[] #[],.func (.func 226) #[] #[],.func (.func 227) #[] #[],.func (.func 228) #[] #[],.func (.func 229) #[] #[],.func (.func 230) #[] #[],.func (.func 231) #[] #[],.func (.func 232) #[] #[],.func (.func 233) #[] #[],.func (.func 234) #[] #[],.func (.func 235) #[] #[],.func (.func 236) #[] #[],.func (.func 237) #[] #[],.func (.func 238) #[] #[],.func (.func 239) #[] #[],.func (.func 240) #[] #[],.func (.func 241) #[] #[],.func (.func 242) #[] #[],.func (.func 243) #[] #[]]
def X1:(prog.info? 337).map (·.size)=some 22:=kf
def X2:(prog.info? 51).map (·.size)=some 6:=kf
def jy:∀v∈Fe,v.oneCell'=true:=by
 intro v hv;have:Fe.all (λv=>v.oneCell')=true:=kf;exact za.1 this v hv
def Z6 (w:World):cT 178 #[] w λe w'=>e= .returned (.agg Fe.toArray)/\Bw w w':=by
 have hn:=AE.new w 337 (List.replicate 22 .nilFunc);have HN:=AC hn;clear hn;go_enter func178,ntmps178
 go_upto_region 99 with (refine Bo rfl 337 _ _ rfl w.heap.size Fe (by rfl) (by rfl) 337 _ (AB HN) (by rw [X1];rfl) (by rfl) jy ?_;intro w6 H6 G6)
 have h6:=AB H6;exact ⟨rfl,.agg Fe.toArray,GZ (by rfl) (by rfl) (run_loadVar_mid w6 w.heap.size 0 337 Fe _ h6.range underlying337 rfl (by rw [X1];rfl)),rfl,bA.trans (Aa G6 (zx _) sI)⟩
def X3:eN 178:=enters_of func178 kf rfl
def Z7 (w':World) (i:Int) (h0:0<=i) (h1:i<22):(Instr.index 337 (.agg Fe.toArray) (iV i)).run prog w'= .ok (Fe.getD i.toNat .nilFunc) w':=by
 have hl:Fe.length=22:=rfl;simp [Instr.index,asIntOf,ue underlying337,h0,h1,go_sem];rw [zz om];rfl
def Si (hg:o.guard=none) (x y:Operand) (ho:o.op= .index 337 x y) (i:Int) (hx:A.eval x= .agg Fe.toArray) (hy:A.eval y= iV i) (v:Value) (hv:0<=i/\i<=21/\Fe.getD i.toNat .nilFunc=v):YieldsIf prog ops S o v A:=
 Bm hg λw' hS=>by
  have h:=Z7 w' i hv.1 om;rw [hv.2.2] at h;simp only [execOp,ho,hx,hy,uk,h,ye,sr]
def Be (hg:o.guard=none) (x:Operand) (i:Nat) (ho:o.op= .extract x i) (vs:Array Value) (hx:A.eval x= .tuple vs) (v:Value) (hv:vs[i]? =some v):YieldsIf P ops S o v A:=
 Bm hg λw' hS=>by simp only [execOp,ho,hx,Instr.extract,hv,uk,sr,ye]
def fZ (c:Int):Value:=if c=0 then .nilIface else .iface 40 (iV c)
abbrev Ri (CB:Nat) (kind:Int) (c1 c2 c3 c4 c5:Value) (w:World):Prop:=AE w CB 51 [iV kind,c1,c2,c3,c4,c5]
def fd {v:Int} (d:cE w b 0 (iV v)):(Instr.loadAt 48 (qP b 0)).run prog w= .ok (iV v) w:=gS
def Rj (n:Int) (w:World):cT 177 #[iV n] w λe w'=>e= .returned (.bool (decide (1<=n)&&decide (n<=21)))/\w'=w:=by
 have H:=AC (Gv n 1 21 w);obtain ⟨q,hq⟩:=xE ((decide (1<=n)&&decide (n<=21)));rw [<-hq] at H ⊢;clear hq;go_enter func177,ntmps177
 go_wp2_with fail
 refine H.mono ?_;rintro e w1 ⟨rfl,rfl⟩;go_wp2;go_ret;exact ⟨rfl,rfl⟩
def jz (kb xb:Nat) (B:Int) (c1 c2 c3 c4 c5:Value) (w:World) (hk:¬(1<=B/\B<=21)):
  cT 140 #[qP kb 0,qP xb 0,.agg #[iV B,c1,c2,c3,c4,c5]] w λe w'=>e=Ey 23/\Bw w w':=by
 obtain ⟨C,E,G⟩:=DO w (iV B) c1 c2 c3 c4 c5;obtain ⟨W2,F⟩:=xE ((w.alloc (Obj.cells #[iV B,c1,c2,c3,c4,c5] 51)).alloc (Obj.cells #[iV 0,iV 0,sN] 140));rw [<-F] at C E G;obtain ⟨CB,H⟩:=xE w.heap.size;rw [<-H] at C E;have a0:cE W2 CB 0 (iV B):=E.cell rfl;obtain ⟨r0,r1,r2,rb⟩:=Cm (x:= iV 0) (y:= iV 0) (z:= sN) C G om;have d0:=C.cell (j:=0) rfl;have d1:=C.cell (j:=1) rfl;have d2:=C.cell (j:=2) rfl;have f0:=C.frozen 0;have f1:=C.frozen 1;have f2:=C.frozen 2;have J:=AC rb
 have HK:=AC (show cT 177 #[iV B] W2 λe w'=>e= .returned (.bool false)/\w'=W2 from by
  have:=Rj B W2
  rwa [show (decide (1<=B)&&decide (B<=21))=false by simp;omega] at this)
 have I:=AC F;clear C E G rb F hk;go_enter func140,ntmps140
 go_upto_region 1 with fail
 rw [<-AB I,<-H];clear H I
 go_wp2_with fail
 refine HK.mono ?_;rintro e w1 ⟨rfl,L⟩;subst L;clear HK;go_wp2;refine xh (v:= .tuple #[Br 0 0 sN,.iface 40 (iV 23)]) (by simp [results,results140,go_sem,Br,r0,r1,r2]) rfl ⟨rfl,AB J⟩
def fe (kb xb:Nat) (B:Int) (fn:Nat) (c1 c2 c3 c4 c5:Value) (L:List Nat) (w:World) (P:Int->Int->Value->Int->World->Prop) (hk:1<=B/\B<=21) (ht:Fe.getD B.toNat .nilFunc= .func (.func fn) #[] #[]) (X:∀args w,(callFunc fn args).run prog w= .ok (.enter fn args) w) (hL:∀l∈L,l<w.heap.size)
  (b1:∀a b d c w',P a b d c w'->d.oneCell'=true) (a3:∀a b d c w' w'' r,P a b d c w'->w'.grownBy w'' (some r)->w.heap.size<=r->r<w.heap.size+2->P a b d c w'')
  (hw:∀W,Bw w W->w.heap.size+2<=W.heap.size->cT fn #[qP kb 0,qP xb 0,.agg #[iV B,c1,c2,c3,c4,c5]] W λe w'=>∃a b d c,e=EJ a b d c/\P a b d c w'/\At L W w'):
  cT 140 #[qP kb 0,qP xb 0,.agg #[iV B,c1,c2,c3,c4,c5]] w λe w'=>∃a b d c,e=EJ a b d c/\P a b d c w'/\At L w w':=by
 obtain ⟨G,C,F⟩:=DO w (iV B) c1 c2 c3 c4 c5;obtain ⟨W2,O⟩:=xE ((w.alloc (Obj.cells #[iV B,c1,c2,c3,c4,c5] 51)).alloc (Obj.cells #[iV 0,iV 0,sN] 140));have a9:W2.heap.size=w.heap.size+2:=by rw [O];simp
 rw [<-O] at G C F;have a4:Hid (∀W,Bw W2 W->cT fn #[qP kb 0,qP xb 0,.agg #[iV B,c1,c2,c3,c4,c5]] W λe w'=>∃a b d c,e=EJ a b d c/\P a b d c w'/\At L W w'):=λW hb=>hw W (F.trans (hb.mono F.size)) (o1 hb.size);obtain ⟨CB,R⟩:=xE w.heap.size;rw [<-R] at G C;have a0:cE W2 CB 0 (iV B):=C.cell rfl;have M:Hid (Ri CB B c1 c2 c3 c4 c5 W2.drew):=C.heap rfl
 have a8:=AC (show ∀w4 w7,Bw W2 w4->At L w4 w7->Ri CB B c1 c2 c3 c4 c5 w7/\AE w7 (CB+1) 140 [iV 0,iV 0,sN] from λw4 w7 hb ho=>
  ⟨ho.holds (C.below hb C.lt) (λhm=>o1 (hL _ hm)),ho.holds (G.below hb G.lt) (λhm=>o1 (hL _ hm))⟩)
 have H:=AC (show ∀w4 w7 w9 a b d c,Bw W2 w4->At L w4 w7->P a b d c w7->w7.grownBy w9 (some (CB+1))->P a b d c w9/\At L w w9 from λw4 w7 w9 a b d c h4 h7 hp hg=>
  ⟨a3 a b d c w7 w9 (CB+1) hp hg om om,((At.of_below (F.trans (h4.mono F.size))).trans h7).tail hg om⟩)
 have R1:Hid (∀w':World,Ri CB B c1 c2 c3 c4 c5 w'->(Instr.loadAt 48 (qP CB 0)).run prog w'= .ok (iV B) w'):=λw' h=>fd (h.cell rfl);have HT:=AC (show 0<=B/\B<=21/\Fe.getD B.toNat .nilFunc= .func (.func fn) #[] #[] from ⟨om,hk.2,ht⟩)
 have HK:=AC (show cT 177 #[iV B] W2 λe w'=>e= .returned (.bool true)/\w'=W2 from by
  have:=Rj B W2
  rwa [show (decide (1<=B)&&decide (B<=21))=true by simp;omega] at this)
 have a2:=AC O;clear G C F O a9 hk ht hw a3 hL;go_enter func140,ntmps140
 go_upto_region 1 with fail
 rw [<-AB a2,<-R];clear R a2
 go_wp2_with fail
 refine HK.mono ?_;rintro e w1 ⟨rfl,b0⟩;subst b0;clear HK
 go_upto_region 3 with fail
 clear a0;refine Ak ?_;intro A hA;have e0:A.eval (.tmp 0)= qP kb 0:=eH hA;have e1:A.eval (.tmp 1)= qP xb 0:=eH hA;have e5:A.eval (.tmp 5)= qP CB 0:=eH hA;have e6:A.eval (.tmp 6)= qP (CB+1) 0:=eH hA;have a5:A.tmps.size=24:=eZ hA;have HA:=AC hA;clear hA;refine xf (S:=Ri CB B c1 c2 c3 c4 c5) kf M (λhS=> ?_);refine tq 1 15 rfl (yF (qP CB 0) (qP CB 0)) hS (tq 2 16 rfl (yl R1) hS (tq 4 18 rfl (yM (qP kb 0)) hS (tq 5 19 rfl (yM (qP xb 0)) hS (tq 6 20 rfl (yieldsIf_load_mid (by simp [Region.wanted]) 51 _ rfl CB 0 sE [iV B,c1,c2,c3,c4,c5] _ (λw' h=>h.range) underlying51 rfl X2) hS ?_))));refine rdy [0] kf (vq rfl (λK hK=> ?_) vr)
 refine Bn rfl 178 _ _ rfl #[] sI X3 _ (λe w' h=>⟨_,h.1⟩) (Z6 w1.drew) (some 14) rfl ?_;rintro r0 w4 ⟨Y,E⟩;have Y:r0= .agg Fe.toArray:=by injection Y
 subst Y;have J:Bw w1 w4:=⟨E.os,E.tape,E.output,E.size,E.block⟩;refine hK.out _ _ (M.below E M.lt) (λa6=> ?_);clear hK K;refine tq 3 17 rfl (Si rfl (.tmp 14) (.tmp 16) rfl B sE sE _ HT) a6 ?_;refine rdy [7] kf (X0 (i:=7) rfl rfl fn _ _ _ rfl sE #[qP kb 0,qP xb 0,.agg #[iV B,c1,c2,c3,c4,c5]] sE X _ (λe w' h=>by obtain ⟨a,b,d,c,h1,_⟩:=h;exact ⟨_,h1⟩) (AB a4 w4 J) (some 21) rfl ?_);rintro r7 w7 ⟨ra,rb,rd,rc,T,V,U⟩;have T:r7= .tuple #[Br ra rb rd,fZ rc]:=by injection T
 subst T;obtain ⟨I,a7⟩:=AB a8 w4 w7 J U;refine ⟨I,?_⟩;refine tq 8 22 rfl (Be rfl _ _ rfl #[Br ra rb rd,fZ rc] sE (Br ra rb rd) rfl) I ?_;refine tq 9 23 rfl (Be rfl _ _ rfl #[Br ra rb rd,fZ rc] sE (fZ rc) rfl) I ?_;refine rdy [10] kf (CZ rfl rfl 140 (.tmp 6) (.tmp 22) rfl (CB+1) 0 [iV ra,iV rb,rd] sE (by simp [Ae,AU,a5,Br]) 140 [iV 0,iV 0,sN] a7 Uu (zx 3) (λv hv=>by simp only [vp,uu,or_false] at hv;rcases hv with rfl|rfl|rfl;rfl;rfl;exact b1 _ _ _ _ _ V) rfl (λw9 H9 G9=>⟨I.grown (AB G9) sI,λa1=> ?_⟩) vr);refine tq 11 7 rfl (yA (fZ rc)) a1 ?_;refine vg kf ?_ _;rw [AB HA];simp only [Act.put,zl,zh,zi];have h9:AE w9 (CB+1) 140 [iV ra,iV rb,rd]:=AB H9;have r0:=h9.cell (j:=0) rfl
 have r1:=h9.cell (j:=1) rfl;have r2:=h9.cell (j:=2) rfl;have HF:=AC (AB H w4 w7 w9 ra rb rd rc J U V G9);obtain ⟨ev,Z⟩:=xE (fZ rc);rw [<-Z];have b2:=AC Z;clear Z h9 H9 G9 hS a6 I a1 a7 V U E J HA e0 e1 e5 e6 a5 A H a8 a4 HT R1 M;go_wp2;refine xh (v:= .tuple #[Br ra rb rd,ev]) (by simp [results,results140,go_sem,Br,r0,r1,r2]) rfl ?_;exact ⟨ra,rb,rd,rc,by rw [AB b2];rfl,AB HF⟩
def kY:(prog.info? 9).map (λi=>(i.zero,i.size,i.bytes))=some (some (.string ByteArray.empty),1,16):=kf
def Tj (w:World) (base:Nat) (v:Value) (xs:List Value) (C:w.ownsRow base 5 1 v xs.length xs) {x:Value} {B:List Int} (hx:Rr w N x B) (hl:xs.length+B.length<=100000000) (hb:base<=w.heap.size):
  ∃v' w',(Builtin.append_ #[36,36] 36 #[v,x]).run prog w= .ok v' w'/\w'.ownsRow base 5 1 v' (xs.length+B.length) (xs++AF B)/\w.grownBy w' v.ownBlock/\(v'.ownBlock=v.ownBlock\/v'.ownBlock=some w.heap.size):=by
 obtain ⟨i,hi,h0,h1,h2⟩:=DX M9;obtain ⟨a,q,o,c,rfl,ha,hv⟩:=hx;refine JD (P:=prog) w base 36 36 5 i _ 1 1 underlying36 hi h0 h1 h2 rfl dz v xs.length xs C a B.length c (AF B) (by rw [AG,Nat.mul_one]) (λad e j u hu=> ?_) (λe=> ?_) (C4 B) (by unfold maxLen;omega) om hb
 ·have hj:j<B.length:=by have:=(zy.1 hu).1;rwa [AG] at this
  obtain ⟨e2,_⟩:=ha om;rw [e2] at e;obtain rfl:=zr e;rw [Ah,hv j hj,<-hu];unfold AF;rw [ze,zz hj,zk,zz hj];rfl
 ·rcases sf B.length with q0|q0
  ·exact q0
  ·rw [(ha q0).1] at e;cases e
def gF (w:World) (base:Nat) {x:Value} {ss:List ByteArray} (hx:Th w N x ss) (hl:ss.length<=100000) (hb:base<=w.heap.size):
  ∃v' w',(Builtin.append_ #[49,49] 49 #[sN,x]).run prog w= .ok v' w'/\w'.ownsRow base 9 1 v' ss.length (ss.map Value.string)/\Bw w w'/\(v'.ownBlock=none\/v'.ownBlock=some w.heap.size):=by
 obtain ⟨i,hi,h0,h1,h2⟩:=DX kY;obtain ⟨a,q,o,c,rfl,ha,hv⟩:=hx;have B:w.ownsRow base 9 1 sN 0 []:=⟨rfl,.inl ⟨rfl,rfl⟩⟩
 have f1:∀ad,a=some ad->∀j u,(ss.map Value.string)[j]? =some u->w.cell? (ad.add j)=some u:=λad e j u hu=>by
  have hj:j<ss.length:=by have:=(zy.1 hu).1;rwa [zc] at this
  obtain ⟨e2,_⟩:=ha om;rw [e2] at e;obtain rfl:=zr e;rw [Ah,hv j hj,<-hu,ze,zz hj,zk,zz hj];rfl
 have f2:a=none->ss.length=0:=λe=>by
  rcases sf ss.length with q0|q0
  ·exact q0
  ·rw [(ha q0).1] at e;cases e
 obtain ⟨v',w',e1,e2,e3,e4⟩:=JD (P:=prog) w base 49 49 9 i _ 1 16 underlying49 hi h0 h1 h2 rfl dz _ 0 [] B a ss.length c (ss.map Value.string) (by rw [zc,Nat.mul_one]) f1 f2 (λu hu=>by obtain ⟨y,_,rfl⟩:=yt.1 hu;rfl) (by unfold maxLen;omega) om hb;rw [zq,xt] at e2;exact ⟨v',w',e1,e2,⟨e3.os,e3.tape,e3.output,e3.size,λb C=>e3.block b C (by simp [Value.ownBlock])⟩,e4⟩
def Rs (o:POp) (dv:Value):List Value:=[iV o.ck,iV o.ca,iV o.cb,.string o.s,o.lv,dv]
def kZ (o:POp) (N:Nat) (w:World) (h:Nv w N o) (hN:N<=w.heap.size) (hB:o.B.length<=1000000):cT 47 #[.agg o.call.toArray] w λe w'=>∃da dc,e= .returned (.agg (Rs o (.slice da o.B.length dc)).toArray)/\w'.ownsRow w.heap.size 5 1 (.slice da o.B.length dc) o.B.length (AF o.B)/\Bw w w':=by
 obtain ⟨la,lq,lo,lc,a9,b1,b2⟩:=h.strs;have V:=h.bs;obtain ⟨ba,bq,bo,bc,a0,_,_⟩:=h.bs;unfold POp.call Rs;rw [a9,a0];rw [a0] at V;obtain ⟨n,hn⟩:=xE o.ss.length;obtain ⟨nb,Y⟩:=xE o.B.length;rw [<-Y] at V;rw [<-hn,<-Y];obtain ⟨SB,M⟩:=xE w.heap.size;obtain ⟨W3,L⟩:=xE (((w.alloc (Obj.cells #[iV o.ck,iV o.ca,iV o.cb,.string o.s,.slice la n lc,.slice ba nb bc] 51)).alloc (Obj.cells #[iV 0,iV 0,iV 0,.string ⟨#[]⟩,sN,sN] 144)).alloc (Obj.cells #[iV o.ck,iV o.ca,iV o.cb,.string o.s,.slice la n lc,sN] 144));have I:Bw w W3:=by rw [L];exact (bA.alloc sI _).alloc sO _
 have b0:W3.heap.size=SB+1+1+1:=by rw [L,M];simp
 have r0:AE W3 SB 51 [iV o.ck,iV o.ca,iV o.cb,.string o.s,.slice la n lc,.slice ba nb bc]:=by
  have h1:=AE.new w 51 [iV o.ck,iV o.ca,iV o.cb,.string o.s,.slice la n lc,.slice ba nb bc];rw [L,M];exact (h1.alloc _).alloc _
 have r1:AE W3 (SB+1) 144 [iV 0,iV 0,iV 0,.string ⟨#[]⟩,sN,sN]:=by
  have h1:=AE.new (w.alloc (Obj.cells #[iV o.ck,iV o.ca,iV o.cb,.string o.s,.slice la n lc,.slice ba nb bc] 51)) 144 [iV 0,iV 0,iV 0,.string ⟨#[]⟩,sN,sN];rw [World.size_alloc] at h1;rw [L,M];exact h1.alloc _
 have r2:AE W3 (SB+1+1) 144 [iV o.ck,iV o.ca,iV o.cb,.string o.s,.slice la n lc,sN]:=by
  have h1:=AE.new ((w.alloc (Obj.cells #[iV o.ck,iV o.ca,iV o.cb,.string o.s,.slice la n lc,.slice ba nb bc] 51)).alloc (Obj.cells #[iV 0,iV 0,iV 0,.string ⟨#[]⟩,sN,sN] 144)) 144 [iV o.ck,iV o.ca,iV o.cb,.string o.s,.slice la n lc,sN];rw [World.size_alloc,World.size_alloc] at h1;rw [L,M];exact h1
 have c5:cE W3 SB 5 (.slice ba nb bc):=r0.cell rfl;have d5:cE W3 (SB+1+1) 5 sN:=r2.cell rfl;obtain ⟨v',W4,a5,E,R,_⟩:=Tj W3 W3.heap.size sN [] ⟨rfl,.inl ⟨rfl,rfl⟩⟩ (V.below (I.mono hN)) sO (zx _);simp only [List.length_nil,zq,xt] at E;rw [<-Y] at E;have F:Bw W3 W4:=⟨R.os,R.tape,R.output,R.size,λb Z=>R.block b Z (by simp [Value.ownBlock])⟩
 obtain ⟨da,dc,rfl⟩:∃da dc,v'= .slice da nb dc:=by
  rcases E.2 with ⟨q1,q2⟩|⟨g,a7,a1,q1,_⟩
  ·exact ⟨none,0,by rw [q1,q2]⟩
  ·exact ⟨_,_,q1⟩
 have a8:=r1.below F r1.lt;have X:=r2.below F r2.lt;obtain ⟨W5,T⟩:=xE (W4.setCell (xK (SB+1+1) 5) (.slice da nb dc));have H:AE W5 (SB+1+1) 144 [iV o.ck,iV o.ca,iV o.cb,.string o.s,.slice la n lc,.slice da nb dc]:=by rw [T];exact X.set 5 _
 have C:AE W5 (SB+1) 144 [iV 0,iV 0,iV 0,.string ⟨#[]⟩,sN,sN]:=by rw [T];exact a8.set_other om 5 _
 have f5:cE W4 (SB+1+1) 5 sN:=X.cell rfl;have g5:=X.frozen 5;have x0:cE W5 (SB+1+1) 0 (iV o.ck):=H.cell rfl;have x1:cE W5 (SB+1+1) 1 (iV o.ca):=H.cell rfl;have x2:cE W5 (SB+1+1) 2 (iV o.cb):=H.cell rfl;have x3:cE W5 (SB+1+1) 3 (.string o.s):=H.cell rfl;have x4:cE W5 (SB+1+1) 4 (.slice la n lc):=H.cell rfl;have x5:cE W5 (SB+1+1) 5 (.slice da nb dc):=H.cell rfl;have y0:cE W5 (SB+1) 0 (iV 0):=C.cell rfl;have y1:cE W5 (SB+1) 1 (iV 0):=C.cell rfl;have y2:cE W5 (SB+1) 2 (iV 0):=C.cell rfl;have y3:cE W5 (SB+1) 3 (.string ⟨#[]⟩):=C.cell rfl;have y4:cE W5 (SB+1) 4 sN:=C.cell rfl;have y5:cE W5 (SB+1) 5 sN:=C.cell rfl;have z0:=C.frozen 0;have z1:=C.frozen 1;have z2:=C.frozen 2;have z3:=C.frozen 3;have z4:=C.frozen 4;have z5:=C.frozen 5
 have J:=AC (show ∀W6:World,W5.grownBy W6 (some (SB+1))->W6.ownsRow w.heap.size 5 1 (.slice da nb dc) nb (AF o.B)/\Bw w W6 from λW6 O=>by
  have G:W4.grownBy W5 (some (SB+1+1)):=by rw [T];exact AI (zj W4 _) 5 _
  have b3:=F.size;have a4:∀b,(Value.slice da nb dc).ownBlock=some b->W3.heap.size<=b:=λb e=>(E.lt b e).1;refine ⟨?_,?_⟩
  ·have h1:=Ck (Ck E (λb e=>G.block b (E.lt b e).2 (by have:=a4 b e;simp;omega))) (λb e=>O.block b (yz (E.lt b e).2 G.size) (by have:=a4 b e;simp;omega));refine ⟨h1.1,h1.2.imp id ?_⟩;rintro ⟨g,a7,a1,q1,q2,q3⟩;exact ⟨g,a7,a1,q1,om,q3⟩
  ·refine ⟨O.os.trans (G.os.trans (F.os.trans I.os)),O.tape.trans (G.tape.trans (F.tape.trans I.tape)),O.output.trans (G.output.trans (F.output.trans I.output)),o3 O.size G.size I.size,λb Z=> ?_⟩;have:=G.size
   rw [O.block b om sO,G.block b om sO,F.block b om,I.block b Z])
 obtain ⟨W6,U⟩:=xE ((((((W5.setCell (xK (SB+1) 0) (iV o.ck)).setCell (xK (SB+1) 1) (iV o.ca)).setCell (xK (SB+1) 2) (iV o.cb)).setCell (xK (SB+1) 3) (.string o.s)).setCell (xK (SB+1) 4) (.slice la n lc)).setCell (xK (SB+1) 5) (.slice da nb dc));have r6:AE W6 (SB+1) 144 [iV o.ck,iV o.ca,iV o.cb,.string o.s,.slice la n lc,.slice da nb dc]:=by rw [U];exact (((((C.set 0 _).set 1 _).set 2 _).set 3 _).set 4 _).set 5 _
 have u0:cE W6 (SB+1) 0 (iV o.ck):=r6.cell rfl;have u1:cE W6 (SB+1) 1 (iV o.ca):=r6.cell rfl;have u2:cE W6 (SB+1) 2 (iV o.cb):=r6.cell rfl;have u3:cE W6 (SB+1) 3 (.string o.s):=r6.cell rfl;have u4:cE W6 (SB+1) 4 (.slice la n lc):=r6.cell rfl;have u5:cE W6 (SB+1) 5 (.slice da nb dc):=r6.cell rfl;have J:=AC (AB J W6 (by rw [U];exact AI (AI (AI (AI (AI (AI (zj W5 _) _ _) _ _) _ _) _ _) _ _) _ _));have a2:=AC U;have a3:=AC (xi L M);have a6:=AC T;clear U r6 L T I b0 r0 r1 r2 a8 X H C R E F V a9 a0 hn Y b1 b2 h M hN hB;go_enter func47,ntmps47
 go_upto_region 2 with fail
 rw [<-a3.1,<-a3.2]
 go_upto_region 3 with (at_builtin;refine Ar rfl _ _ _ (by rfl) _ _ _ _ (by rfl) (by rfl) a5 ?_)
 rw [<-AB a6];clear a6 a5 c5 d5 f5 g5;go_wp2;rw [<-AB a2];clear a2 x0 x1 x2 x3 x4 x5 y0 y1 y2 y3 y4 y5 z0 z1 z2 z3 z4 z5;exact xh (v:= .agg #[iV o.ck,iV o.ca,iV o.cb,.string o.s,.slice la n lc,.slice da nb dc]) (by simp [results,results47,go_sem,u0,u1,u2,u3,u4,u5]) rfl ⟨da,dc,rfl,AB J⟩
end Go.Proofs.YtpcjkidgohpeoaaGreatDoor
