import Derived.Test.YtpcjkidgohpeoaaGreatDoorG28
set_option maxRecDepth 100000
set_option maxHeartbeats 8000000
set_option linter.all false
namespace Go.Proofs.YtpcjkidgohpeoaaGreatDoor
open RowKit Maps Proofs.Tryz
variable {o b n c k base gp cp g:Nat} {P:Program} {ops:Array Oper} {S:World->Prop} {A:Act} {v:Value} {w:World} {a:Option Addr} {L:List (AP×RL)} {p:Int} {PS:List Pg}
def setPS (d:PD) (Q:List Pg):PD:={d with p:={d.p with PS:=Q}}
def Zf (d:PD):setPS d d.p.PS=d:=rfl
def Uw {cb:Nat} {d:PD} (h:PDW cb d) {Q:List Pg} {c:List Value} (ho:o+c.length<=65792) (hs:splice (AW d.p.PS) o c=AW Q):splice (Cu d) (17+o) c=Cu (setPS d Q):=by
 unfold Cu AX CK;rw [xu,xu];have hl:(Value.int .u64 d.p.pc::d.p.R.map (Value.int .u64)).length=17:=by simp [h.regs]
 rw [<-hl,IB,Xd _ _ _ _ (by rw [h.space];exact ho),hs];rfl
def PDW.setPS {cb:Nat} {d:PD} (h:PDW cb d) {Q:List Pg} (hQ:Bc Q):PDW cb (setPS d Q):=⟨h.regs,hQ,h.fds⟩
def ly (cb xb a n:Nat) (d:PD) (w:World) (h:AE w xb 193 (Cu d)) (hd:PDW cb d) (hl:∀p∈d.p.PS,p.num<254->p.num<(a:Int)) (hn:a+n<=254):
  cT 304 #[qP xb 17,iV (a:Nat),iV (n:Nat)] w λe w'=>e= .returned (.tuple #[])/\AE w' xb 193 (Cu (setPS d (Cp d.p.PS a n)))/\w.grownBy w' (some xb):=by
 have H0:=AC (show AE w xb 193 (Cu (setPS d (Cp d.p.PS a 0))) from by rw [Xc hd.pages,Zf];exact h);have HD:=AC hd;have HL:=AC hl;clear h hd hl;go_enter func304,ntmps304;go_wp2
 go_loopw [8] (λi wr=>∃k:Nat,k<=n/\i= iV k/\Hid (AE wr xb 193 (Cu (setPS d (Cp d.p.PS a k))))/\Hid (w.grownBy wr (some xb))) (λi _=>n-(intOf i).toNat)
 case atStart=>exact ⟨0,om,rfl,H0,AC (zj w _)⟩
 case round=>
  obtain ⟨k,hk,rfl,HR,HG⟩:=hrel;by_cases H:k<n
  ·obtain ⟨ak,C⟩:=xE (a+k);have ha:(a:Int)+(k:Int)=(ak:Int):=om;have a0:(0:Int)<=(ak:Int):=om;have a1:(ak:Int)<256:=om;have k1:(k:Int)<(n:Int):=om;have hq:=Kq HD.pages (n:=k) HL om;have hs:=jT HD.pages (i:=k) HL om;rw [<-C] at hs;have B:=Uw (HD.setPS hq) (o:=ak*257) (c:=Bi (Fy ak)) (by rw [CX AT];omega) hs;have B:splice (Cu (setPS d (Cp d.p.PS a k))) (17+ak*257) (Bi (Fy ak))=Cu (setPS d (Cp d.p.PS a (k+1))):=B
   have D:17+ak*257+(Bi (Fy ak)).length<=(Cu (setPS d (Cp d.p.PS a k))).length:=by
    have h1:=(HD.setPS hq).space;have h2:=(HD.setPS hq).regs;rw [CX AT];unfold Cu AX CK;simp only [zm,um,zc];omega
   have G:=AC B;have E:=AC D;have F:=Ze ak;clear hq hs B D C
   go_upto_region 4 with (refine Ec rfl 183 (.tmp 18) (.tmp 15) rfl xb (17+ak*257) (Bi (Fy ak)) (by rfl) (by rfl) 193 (Cu (setPS d (Cp d.p.PS a k))) (AB HR) (by rw [TC,CX AT]) (AB E) (IP _) ?_;intro w6 H6 G6)
   have HF:=AC (show AE w6 xb 193 (Cu (setPS d (Cp d.p.PS a (k+1))))/\w.grownBy w6 (some xb) from ⟨by rw [<-AB G];exact AB H6,HG.trans (AB G6)⟩);clear H6 G6 F;go_wp2;exact ⟨⟨k+1,om,sI,AC HF.1,AC HF.2⟩,by simp only [intOf];omega⟩
  ·obtain rfl:k=n:=om;go_wp2;go_end0;exact ⟨rfl,AB HR,AB HG⟩
def oC {o:Oper} (j d:Nat) (b:Bool) (hg:o.guard=some (j,b)) (hj:(ops[j]?).bind (·.dst)=some d) (hd:d<A.tmps.size) (hv:A.eval (.tmp d)= .bool b) (h:YieldsIf P ops S {o with guard:=none} v A):YieldsIf P ops S o v A:=by
 rcases h with ⟨_,h⟩|⟨h,_⟩
 ·exact .inl ⟨(Gz hg hj hd hv).trans sI,h⟩
 ·exact absurd h (by simp [Region.wanted])
def nJ {o:Oper} (j d:Nat) (b:Bool) (hg:o.guard=some (j,b)) (hj:(ops[j]?).bind (·.dst)=some d) (hd:d<A.tmps.size) (hv:A.eval (.tmp d)= .bool (!b)):YieldsIf P ops S o undef A:=
 .inr ⟨(Gz hg hj hd hv).trans (by cases b<;>rfl),rfl⟩
def jU:eN 304:=enters_of func304 kf rfl
def Xe (D:Nat->PD) (x:Int×Nat):Nat:=CN (D x.2).p.PS 254
def bh (kb pm n cb:Nat) (PL:List (Int×Nat)) (D:Nat->PD) (x:Int×Nat) (lf ca:Int) (w:World) (e:Ending) (w':World):Prop:=
 (¬(0<=ca/\ca<=64)/\e=Ey 6/\Bw w w')\/
 ((0<=ca/\ca<=64)/\(lf-((PL.map (lenOf D)).sum:Int)<ca\/254<(Xe D x:Int)+ca)/\e=Ey 7/\Bw w w')\/
 ((0<=ca/\ca<=64)/\ca<=lf-((PL.map (lenOf D)).sum:Int)/\(Xe D x:Int)+ca<=254/\e=EJ ((Xe D x:Int)*256) 0 sN 0/\XK w' kb pm n cb PL (upd D x.2 (setPS (D x.2) (Cp (D x.2).p.PS (Xe D x) ca.toNat)))/\At [x.2] w w')
def jV (kb pm n cb:Nat) (PL:List (Int×Nat)) (D:Nat->PD) (x:Int×Nat) (lf:Int) (c0:Value) (ca:Int) (c2 c3 c4 c5:Value) (w:World) (h:XK w kb pm n cb PL D) (hx:x∈PL) (f4:cE w kb 1 (iV lf)) (a5:(PL.map (lenOf D)).sum<=1000000) (d5:0<=lf/\lf<=1000000):
  cT 239 #[qP kb 0,qP x.2 0,.agg #[c0,iV ca,c2,c3,c4,c5]] w (bh kb pm n cb PL D x lf ca w):=by
 obtain ⟨G,a3,a4⟩:=DO w c0 (iV ca) c2 c3 c4 c5;obtain ⟨W2,b9⟩:=xE ((w.alloc (Obj.cells #[c0,iV ca,c2,c3,c4,c5] 51)).alloc (Obj.cells #[iV 0,iV 0,sN] 140));rw [<-b9] at G a3 a4;have Z:=h.below a4;obtain ⟨CB,b1⟩:=xE w.heap.size;rw [<-b1] at G a3;have a1:cE W2 CB 1 (iV ca):=a3.cell rfl;have a9:W2.cell? (xK kb 1)=some (.int .i64 lf):=by rw [a4.cell (p:=(xK kb 1)) h.kl];exact f4
 obtain ⟨FR,c9⟩:=xE (lf-((PL.map (lenOf D)).sum:Int));obtain ⟨BR,b4⟩:=xE (Xe D x);obtain ⟨qi,c7⟩:∃qi:Bool,qi=(decide (0<=ca)&&decide (ca<=64)):=⟨_,rfl⟩;have f7:BR<=254:=by rw [b4];exact Lv _ _
 have d0:=G.cell (j:=0) rfl;have d1:=G.cell (j:=1) rfl;have d2:=G.cell (j:=2) rfl;have f0:=G.frozen 0;have f1:=G.frozen 1;have f2:=G.frozen 2;have f5:=AC (show cT 63 #[iV ca,iV 0,iV 64] W2 λe w'=>e= .returned (.bool qi)/\w'=W2 from by rw [c7];exact Gv ca 0 64 W2)
 have a6:=AC (show cT 303 #[qP x.2 17] W2 λe w'=>e= .returned (iV (BR:Nat))/\w'=W2 from by
  rw [b4]
  exact fA x.2 17 (D x.2).p.PS W2 (h.each x hx).2.1.pages (Z.perms hx))
 have b2:=AC (show ∀W,Bw W2 W->cT 74 #[qP kb 0] W λe w'=>e= .returned (iV FR)/\Bw W w' from λW hb=>by
  rw [c9];have hk:=Z.below hb
  exact Gi kb pm n lf PL (lenOf D) W ((hb.cell (p:=(xK kb 1)) Z.kl).trans a9) hk.k9 hk.map hk.pagesOf a5 d5)
 have f9:Hid (∀W,Bw W2 W->W.cell? (xK CB 1)=some (iV ca)):=λW hb=>by rw [hb.cell (p:=(xK CB 1)) a3.lt];exact a1
 have J:Hid (Bw W2 W2.drew):=(zw _ _).drew;obtain ⟨QQ,c8⟩:=xE (bh kb pm n cb PL D x lf ca w);rw [<-c8];obtain ⟨HQ,d6,U,a2,g0,R,HX⟩:=H7 c8 b9 a4 G Z b1 hx;have T:=AC (xi c9 (xi b4 c7));have b7:=AC (show kb<w.heap.size/\pm<w.heap.size/\∀y∈PL,y.2<w.heap.size from ⟨h.kl,h.map.lt,λy hy=>(h.each y hy).1.lt⟩);obtain ⟨xp,xb⟩:=x;simp only at a6 ⊢;clear h hx f4 a5 d5 b9 a4 Z a9 c9 b4 c7 G a3 c8;go_enter func239,ntmps239
 go_upto_region 1 with fail
 rw [<-AB d6,<-b1];clear b1
 go_wp2_with fail
 refine f5.mono ?_;rintro e w1 ⟨rfl,Y⟩;subst Y;clear f5 d6
 cases qi with
 |false=>
  obtain ⟨r0,r1,r2,rb⟩:=Cm (x:= iV 0) (y:= iV 0) (z:= sN) a2 U (o1 (AB R));have V:=AC rb;clear rb;go_wp2;refine xh (v:= .tuple #[Br 0 0 sN,.iface 40 (iV 6)]) (by simp [results,results239,go_sem,Br,r0,r1,r2]) rfl ?_;rw [AB HQ];refine .inl ⟨λhc=> ?_,rfl,AB V⟩;have:=T.2.2;rw [ve hc.1,ve hc.2] at this
  exact absurd this dz
 |true=>
  have d3:0<=ca/\ca<=64:=by have:=T.2.2;simp at this;exact this
  obtain ⟨c,rfl⟩:∃c:Nat,ca=(c:Int):=⟨ca.toNat,om⟩;have a0:=f9;obtain ⟨BC,F⟩:=xE (BR+c);obtain ⟨qs,I⟩:∃qs:Bool,qs=decide ((BC:Int)>254):=⟨_,rfl⟩;have g4:c<=64:=om;have R1:Hid (∀w':World,w'.cell? (xK CB 1)=some (iV (c:Nat))->(Instr.loadAt 3 (qP CB 1)).run prog w'= .ok (iV (c:Nat)) w'):=λw' h=>Hk h
  have R3:=AC (show ∀w':World,((do eqGuard .add 3 (.tmp 26) (.tmp 28) (iV (BR:Nat)) (iV (c:Nat));binOp .add 3 (iV (BR:Nat)) (iV (c:Nat)):Sem Value)).run prog w'= .ok (iV (BC:Nat)) w' from λw'=>by
   rw [F];clear I F a1 d0 d1 d2 f0 f1 f2;go_simp;rw [yg]
   omega)
  have R4:=AC (show ∀w':World,((do eqGuard .gtr 3 (.tmp 29) (.const (iV 254)) (iV (BC:Nat)) (iV 254);binOp .gtr 3 (iV (BC:Nat)) (iV 254):Sem Value)).run prog w'= .ok (.bool qs) w' from λw'=>by
   rw [I];clear I F a1 d0 d1 d2 f0 f1 f2 R3
   go_simp)
  have b5:=AC (xi F I);by_cases hg:(c:Int)>FR
  ·have R2:=AC (show ∀w':World,((do eqGuard .gtr 3 (.tmp 21) (.tmp 23) (iV (c:Nat)) (iV FR);binOp .gtr 3 (iV (c:Nat)) (iV FR):Sem Value)).run prog w'= .ok (.bool true) w' from λw'=>by
    have h1:FR<(c:Int):=hg;clear I F a1 d0 d1 d2 f0 f1 f2 R3 R4
    go_simp)
   have HG:=AC hg;clear hg I F d3
   go_wp2_with fail
   refine a6.mono ?_;rintro e w1 ⟨rfl,Y⟩;subst Y;clear a6 d0 d1 d2 f0 f1 f2
   go_upto_region 4 with fail
   refine Ak ?_;intro A hA;have e0:A.eval (.tmp 0)= qP kb 0:=eH hA;have e5:A.eval (.tmp 5)= qP CB 0:=eH hA;have e8:A.eval (.tmp 8)= iV (BR:Nat):=eH hA;have a7:A.tmps.size=45:=eZ hA;have HA:=AC hA;clear hA;refine xf (S:=λw'=>w'.cell? (xK CB 1)=some (iV (c:Nat))) kf (AB a0 _ J) (λhS=> ?_);refine tq 0 20 rfl (yF (qP CB 0) (qP CB 1)) hS (tq 1 21 rfl (yl R1) hS (tq 2 22 rfl (yM (qP kb 0)) hS ?_));refine rdy [3] kf (vq rfl (λK hK=> ?_) vr);refine Bn rfl 74 _ _ rfl #[qP kb 0] sE Ko _ (λe w' h=>⟨_,h.1⟩) (AB b2 _ J) (some 23) rfl ?_;rintro r3 w3 ⟨B,a8⟩;have B:r3= iV FR:=by injection B
   subst B;have N:Bw w1 w3:=J.trans (a8.mono J.size);have H:=AC N;refine hK.out _ _ (AB a0 w3 N) (λC=> ?_);clear hK K;refine tq 4 24 rfl (yB (iV (c:Nat)) (iV FR) (.bool true) R2) C ?_;refine tq 5 25 rfl (yM (.bool true)) C ?_;refine tq 6 26 rfl yO C ?_;refine tq 7 27 rfl yO C ?_;refine tq 8 28 rfl yO C ?_;refine tq 9 29 rfl yO C ?_;refine tq 10 30 rfl yO C ?_;refine tq 11 31 rfl (De rfl _ _ _ rfl true (.bool true) sE sE) C ?_;refine vg kf ?_ _;rw [AB HA];simp only [Act.put,zl,zh,zi];have B:=a2.below H a2.lt;clear hS C a8 N HA e0 e5 e8 a7 A b2 R1 R2 R3 R4 a1;have d0:=B.cell (j:=0) rfl;have d1:=B.cell (j:=1) rfl;have d2:=B.cell (j:=2) rfl;have f0:=B.frozen 0;have f1:=B.frozen 1;have f2:=B.frozen 2;obtain ⟨r0,r1,r2,rb⟩:=Cm (x:= iV 0) (y:= iV 0) (z:= sN) B (U.trans (H.mono U.size)) (o1 (AB R))
   have V:=AC rb;clear rb B;go_wp2;refine xh (v:= .tuple #[Br 0 0 sN,.iface 40 (iV 7)]) (by simp [results,results239,go_sem,Br,r0,r1,r2]) rfl ?_;rw [AB HQ];refine .inr (.inl ⟨⟨om,om⟩,.inl ?_,rfl,AB V⟩);have:=AB HG;have:=T.1;omega
  ·have R2:=AC (show ∀w':World,((do eqGuard .gtr 3 (.tmp 21) (.tmp 23) (iV (c:Nat)) (iV FR);binOp .gtr 3 (iV (c:Nat)) (iV FR):Sem Value)).run prog w'= .ok (.bool false) w' from λw'=>by
    have h1:(c:Int)<=FR:=om;clear I F a1 d0 d1 d2 f0 f1 f2 R3 R4
    go_simp)
   have HG:=AC hg;clear hg I F d3
   go_wp2_with fail
   refine a6.mono ?_;rintro e w1 ⟨rfl,Y⟩;subst Y;clear a6 d0 d1 d2 f0 f1 f2
   go_upto_region 4 with fail
   refine Ak ?_;intro A hA;have e0:A.eval (.tmp 0)= qP kb 0:=eH hA;have e5:A.eval (.tmp 5)= qP CB 0:=eH hA;have e8:A.eval (.tmp 8)= iV (BR:Nat):=eH hA;have a7:A.tmps.size=45:=eZ hA;have HA:=AC hA;clear hA;refine xf (S:=λw'=>w'.cell? (xK CB 1)=some (iV (c:Nat))) kf (AB a0 _ J) (λhS=> ?_);refine tq 0 20 rfl (yF (qP CB 0) (qP CB 1)) hS (tq 1 21 rfl (yl R1) hS (tq 2 22 rfl (yM (qP kb 0)) hS ?_));refine rdy [3] kf (vq rfl (λK hK=> ?_) vr);refine Bn rfl 74 _ _ rfl #[qP kb 0] sE Ko _ (λe w' h=>⟨_,h.1⟩) (AB b2 _ J) (some 23) rfl ?_;rintro r3 w3 ⟨B,a8⟩;have B:r3= iV FR:=by injection B
   subst B;have N:Bw w1 w3:=J.trans (a8.mono J.size);have H:=AC N;refine hK.out _ _ (AB a0 w3 N) (λC=> ?_);clear hK K;refine tq 4 24 rfl (yB (iV (c:Nat)) (iV FR) (.bool false) R2) C ?_;refine tq 5 25 rfl (yM (.bool false)) C ?_;refine tq 6 26 rfl (yG (yM (iV (BR:Nat)))) C ?_;refine tq 7 27 rfl (yG (yF (qP CB 0) (qP CB 1))) C ?_;refine tq 8 28 rfl (yG (yl R1)) C ?_;refine tq 9 29 rfl (yG (yB (iV (BR:Nat)) (iV (c:Nat)) (iV (BC:Nat)) R3)) C ?_;refine tq 10 30 rfl (yG (yB (iV (BC:Nat)) (iV 254) (.bool qs) R4)) C ?_;refine tq 11 31 rfl (De rfl _ _ _ rfl false (.bool qs) sE sE) C ?_;refine vg kf ?_ _;rw [AB HA];simp only [Act.put,zl,zh,zi];have B:=a2.below H a2.lt;clear hS C a8 N HA e0 e5 e8 a7 A b2 R2 R3 R4 a1
   cases qs with
   |true=>
    have d0:=B.cell (j:=0) rfl;have d1:=B.cell (j:=1) rfl;have d2:=B.cell (j:=2) rfl;have f0:=B.frozen 0;have f1:=B.frozen 1;have f2:=B.frozen 2;obtain ⟨r0,r1,r2,rb⟩:=Cm (x:= iV 0) (y:= iV 0) (z:= sN) B (U.trans (H.mono U.size)) (o1 (AB R));have V:=AC rb;clear rb B;go_wp2;refine xh (v:= .tuple #[Br 0 0 sN,.iface 40 (iV 7)]) (by simp [results,results239,go_sem,Br,r0,r1,r2]) rfl ?_;rw [AB HQ];refine .inr (.inl ⟨⟨om,om⟩,.inr ?_,rfl,AB V⟩);obtain ⟨z1,z2⟩:=AB b5;have:=tu z2.symm;have:=T.2.1
    omega
   |false=>
    obtain ⟨z1,z2⟩:=AB b5;have F:=tr z2.symm;have c1:=(g0.below H).below (show Bw w3 w3.drew from (zw _ _).drew);obtain ⟨hh,hd,O⟩:=c1.each (xp,xb) HX;simp only at hh hd O;have d8:BR=CN (D xb).p.PS 254:=T.2.1;have M:∀p∈(D xb).p.PS,p.num<254->p.num<(BR:Int):=λp hp hl=>by rw [d8];exact Kp hd.pages 254 p hp hl
    have b8:BR+c<=254:=om;have X:=AC (ly cb xb BR c (D xb) w3.drew hh hd M b8);have d4:CB≠xb:=by have h1:xb<w.heap.size:=b7.2.2 _ HX;have:=AB R;omega
    have f6:=AC d4;have b6:Hid (w3.drew.cell? (xK CB 1)=some (iV (c:Nat))):=AB a0 w3 H
    have b0:=AC (show ∀w7,AE w7 xb 193 (Cu (setPS (D xb) (Cp (D xb).p.PS BR c)))->w3.drew.grownBy w7 (some xb)->XK w7 kb pm n cb PL (upd D xb (setPS (D xb) (Cp (D xb).p.PS BR c)))/\At [xb] w w7/\AE w7 (CB+1) 140 [iV 0,iV 0,sN] from λw7 h7 g7=>by
     refine ⟨c1.put (x:=(xp,xb)) HX g7 h7 (hd.setPS (Kq hd.pages M b8)) O,?_,?_⟩
     ·exact (((At.of_below U).trans (At.of_below H)).trans (At.of_below (show Bw w3 w3.drew from (zw _ _).drew))).trans (At.of_grown g7 sI)
     ·refine (B.heap (W':=w3.drew) rfl).grown g7 ?_;have h1:xb<w.heap.size:=b7.2.2 _ HX;have:=AB R;simp
      omega)
    clear z1 z2 F c1 hh hd O d8 M b8 d4 B
    go_upto_region 6 with fail
    refine Ak ?_;intro A hA;have e1:A.eval (.tmp 1)= qP xb 0:=eH hA;have e5:A.eval (.tmp 5)= qP CB 0:=eH hA;have e8:A.eval (.tmp 8)= iV (BR:Nat):=eH hA;have a7:A.tmps.size=45:=eZ hA;have HA:=AC hA;clear hA;refine xf (S:=λw'=>w'.cell? (xK CB 1)=some (iV (c:Nat))) kf b6 (λhS=> ?_);refine tq 0 34 rfl (yM (qP xb 0)) hS (tq 1 35 rfl (yN (xK xb 0)) hS (tq 2 36 rfl (yF (qP xb 0) (qP xb 0)) hS (tq 3 37 rfl (yF (qP xb 0) (qP xb 17)) hS (tq 4 38 rfl (yM (iV (BR:Nat))) hS (tq 5 39 rfl (yF (qP CB 0) (qP CB 1)) hS ?_)))));refine tq 6 40 rfl (yl R1) hS ?_;refine rdy [7] kf (vq rfl (λK hK=> ?_) vr)
    refine Bn rfl 304 _ _ rfl #[qP xb 17,iV (BR:Nat),iV (c:Nat)] sE jU _ (λe w' h=>⟨_,h.1⟩) X (some 41) rfl ?_;rintro r7 w7 ⟨f8,b3⟩;refine hK.out _ _ (b3.2.cell (AB b6) (by simpa using AB f6)) (λg2=> ?_);clear hK K;refine vg kf ?_ _;rw [AB HA];simp only [Act.put,zl,zh,zi];obtain ⟨f3,d9,E⟩:=AB b0 w7 b3.1 b3.2;have d0:=E.cell (j:=0) rfl;have d1:=E.cell (j:=1) rfl;have d2:=E.cell (j:=2) rfl;have f0:=E.frozen 0;have f1:=E.frozen 1;have f2:=E.frozen 2;obtain ⟨r0,r1,r2,_⟩:=Cm (x:= iV ((BR:Int)*256)) (y:= iV 0) (z:= sN) E (zw 0 w7) (Nat.zero_le _);have c6:=FG (w:=w7) (b:=CB+1) (iV ((BR:Int)*256)) (iV 0) sN;have d7:=AB b7;have g1:=AB R;have HF:=AC (xi (f3.grown c6 om om (λy hy=>o1 (d7.2.2 y hy))) (d9.tail c6 om))
    clear d7 g1 c6 f3 d9 E f8 b3 hS g2 HA e1 e5 e8 a7 A b0 X b6 R1;go_wp2;refine xh (v:= .tuple #[Br ((BR:Int)*256) 0 sN,.nilIface]) (by simp [results,results239,go_sem,Br,r0,r1,r2]) rfl ?_;rw [AB HQ];obtain ⟨z1,z2⟩:=AB b5;have F:=tr z2.symm;obtain ⟨y1,y2,_⟩:=AB T;have g3:=AB HG;refine .inr (.inr ⟨⟨om,om⟩,om,om,by rw [<-y2];rfl,?_,HF.2⟩);have:=HF.1;rw [<-y2];exact this
def JQ (d:cE w b 5 (.slice a n c)):(Instr.loadAt 79 (qP b 5)).run prog w= .ok (.slice a n c) w:=gS
def CG {v:Int} (d:cE w b o (iV v)):(Instr.loadAt 3 (qP b o)).run prog w= .ok (iV v) w:=gS
def pB (kb gp cp N QB k:Nat) (xp qp:Int) (w:World):Prop:=w.cell? (xK kb 5)=some (sL gp 0 N cp)/\w.cell? (xK QB 0)=some (iV qp)/\w.cell? (xK gp (k*31))=some (iV xp)
def IU (L:List (AP×RL)) (p:Int):Nat:=(L.takeWhile (λx=>decide (x.1.pid<p))).length
def TU (hk:k<=L.length) (hb:∀(j:Nat) (x:AP×RL),j<k->L[j]? =some x->x.1.pid<p) (he:∀x,L[k]? =some x->¬x.1.pid<p):IU L p=k:=by
 unfold IU
 induction L generalizing k with
 |nil=>simp at hk;simp [hk]
 |cons a r ih=>
  cases k with
  |zero=>
   have:=he a rfl;rw [List.takeWhile_cons_of_neg (sU this)]
   rfl
  |succ k=>
   have h1:=hb 0 a om rfl;rw [List.takeWhile_cons_of_pos (sU h1),um,ih (k:=k) (sU hk) (λj x hj hx=>hb (j+1) x om hx) (λx hx=>he x hx)]
def Ky (L:List (AP×RL)) (q:AP×RL):List (AP×RL):=L.take (IU L q.1.pid)++[q]++L.drop (IU L q.1.pid)
def Pn (kb base:Nat) (krow:List Value) (L:List (AP×RL)) (q:AP×RL) (w:World) (e:Ending) (w':World):Prop:=
 e= .returned (.tuple #[])/\∃g c,AE w' kb 85 (krow.set 5 (sL g 0 (Ky L q).length c))/\w'.ownsRow base 78 31 (sL g 0 (Ky L q).length c) (Ky L q).length (Ai (Ky L q))/\w.heap.size<=g/\w.grownBy w' (some kb)
def Zg (kb base gp cp:Nat) (X:List Value) (L:List (AP×RL)) (q:AP×RL) (w:World) (hk:AE w kb 85 X) (h5:X[5]? =some (sL gp 0 L.length cp)) (h:w.ownsRow base 78 31 (sL gp 0 L.length cp) L.length (Ai L)) (hn:L.length<=1000) (l1:kb≠gp) (hb:base<=w.heap.size):
  cT 144 #[qP kb 0,.agg (rpc q).toArray] w (Pn kb base X L q w):=by
 obtain ⟨QR,i5⟩:=xE (rpc q);have l3:QR.length=31:=by rw [i5];rfl
 obtain ⟨qp,l6⟩:=xE q.1.pid;have l5:QR[0]? =some (iV qp):=by rw [i5,l6];unfold rpc Au;rfl
 rw [<-i5];obtain ⟨W1,i9⟩:=xE (w.alloc (Obj.cells QR.toArray 78));have j0:Bw w W1:=by rw [i9];exact bA
 have k7:AE W1 w.heap.size 78 QR:=by rw [i9];exact AE.new w 78 QR
 obtain ⟨QB,k9⟩:=xE w.heap.size;rw [<-k9] at k7;have k8:=hk.below j0 hk.lt;have j4:=h.lt gp rfl;have a7:W1.ownsRow base 78 31 (sL gp 0 L.length cp) L.length (Ai L):=Hh h (j0.block gp j4.2);obtain ⟨N,hN⟩:=xE L.length;have c5:W1.cell? (xK kb 5)=some (sL gp 0 N cp):=by rw [hN];exact k8.cell h5
 have m0:=AC (show ∀(k:Nat) (x:AP×RL),L[k]? =some x->W1.cell? (xK gp (k*31))=some (iV x.1.pid) from λk x hx=>by
  have e:(rpc x)[0]? =some (iV x.1.pid):=by unfold rpc Au;rfl
  have hj:=(zy.1 hx).1;rw [a7.cellAt _ om];have:=G0 L k 0 x _ hx e
  rwa [sq] at this)
 obtain ⟨QQ,l0⟩:=xE (Pn kb base X L q w);rw [<-l0];have HQ:=AC l0;have HN:=AC hN;have m3:N<=1000:=om;obtain ⟨g1,g9,i8,U⟩:=H4 k8 k7 a7 j0;have a8:=AC (xi i5 (xi l3 l6));have l8:=AC l5;have l4:=AC i9;have c7:=AC (show kb<w.heap.size/\gp<w.heap.size/\base<=w.heap.size/\kb≠gp from ⟨hk.lt,j4.2,hb,l1⟩);clear hk h5 h hn l1 hb i9 j0 k7 k8 a7 i5 l3 l5 hN l0 j4;go_enter func144,ntmps144
 go_upto_region 1 with fail
 rw [<-AB l4,<-k9];clear k9 l4;go_wp2
 go_loopw [4] (λi wr=>∃k:Nat,k<=N/\i= iV k/\Hid (Bw W1 wr)/\Hid (∀(j:Nat) (x:AP×RL),j<k->L[j]? =some x->x.1.pid<qp)) (λi _=>N-(intOf i).toNat)
 case atStart=>exact ⟨0,om,rfl,AC (zw _ _),AC (λj x hj=>om)⟩
 case round=>
  obtain ⟨k,hk,rfl,f8,HB⟩:=hrel;have k0:(0:Int)<=(k:Int):=om;have d4:∀(b o:Nat) (v:Value),W1.cell? (xK b o)=some v->wr.cell? (xK b o)=some v:=λb o v hv=>by rw [f8.cell (p:=(xK b o)) (zu _ _ hv)];exact hv
  have w5:=d4 _ _ _ c5;by_cases a0:k<N
  ·have k1:(k:Int)<(N:Int):=om;obtain ⟨x,hx⟩:∃x,L[k]? =some x:=⟨_,zz (o1 (AB HN))⟩;have c0:=d4 _ _ _ (AB m0 k x hx);obtain ⟨xp,g2⟩:=xE x.1.pid;rw [<-g2] at c0;have h6:=AC (show pB kb gp cp N QB k xp qp wr.drew from ⟨w5,d4 _ _ _ (g9.cell l8),c0⟩);obtain ⟨qq,g4⟩:∃qq:Bool,qq=decide (xp<qp):=⟨_,rfl⟩
   have RI:=AC (show ∀w':World,(Instr.indexAt 79 (sL gp 0 N cp) (iV (k:Nat))).run prog w'= .ok (qP gp (k*31)) w' from λw'=>by
    clear d4 w5 c0 hx g2 g4 c5
    go_simp)
   have R6:=AC (show ∀w':World,((do eqGuard .lss 3 (.tmp 6) (.tmp 11) (iV (k:Nat)) (iV (N:Nat));binOp .lss 3 (iV (k:Nat)) (iV (N:Nat)):Sem Value)).run prog w'= .ok (.bool true) w' from λw'=>by
    clear d4 w5 c0 hx g2 g4 c5 RI
    go_simp)
   have l2:=AC (show ∀w':World,((do eqGuard .lss 3 (.tmp 21) (.tmp 23) (iV xp) (iV qp);binOp .lss 3 (iV xp) (iV qp):Sem Value)).run prog w'= .ok (.bool qq) w' from λw'=>by
    rw [g4];clear d4 w5 c0 hx g2 g4 c5 RI R6
    go_simp)
   have k5:=AC (xi hx (xi g2 g4));clear d4 w5 c0 hx g2 g4
   go_upto_region 2 with fail
   refine Ak ?_;intro A hA;have e0:A.eval (.tmp 0)= qP kb 0:=eH hA;have e3:A.eval (.tmp 3)= qP QB 0:=eH hA;have e4:A.eval (.tmp 4)= iV (k:Nat):=eH hA;have k6:A.tmps.size=52:=eZ hA;have HA:=AC hA;clear hA;refine xf (S:=pB kb gp cp N QB k xp qp) kf h6 (λhS=> ?_);refine tq 0 6 rfl (yM (iV (k:Nat))) hS (tq 1 7 rfl (yM (qP kb 0)) hS (tq 2 8 rfl (yN (xK kb 0)) hS (tq 3 9 rfl (yF (qP kb 0) (qP kb 5)) hS (tq 4 10 rfl (yl (λw' h=>JQ h.1)) hS (tq 5 11 rfl (Do rfl _ _ rfl (sL gp 0 N cp) sE (iV (N:Nat)) (λw' _=>gS)) hS ?_)))));refine tq 6 12 rfl (yB (iV (k:Nat)) (iV (N:Nat)) (.bool true) R6) hS (tq 7 13 rfl (yM (.bool true)) hS (tq 8 14 rfl (yG (yM (qP kb 0))) hS ?_))
   refine tq 9 15 rfl (yG (yN (xK kb 0))) hS (tq 10 16 rfl (yG (yF (qP kb 0) (qP kb 5))) hS (tq 11 17 rfl (yG (yl (λw' h=>JQ h.1))) hS (tq 12 18 rfl (yG (yM (iV (k:Nat)))) hS (tq 13 19 rfl (yG (yI (sL gp 0 N cp) (iV (k:Nat)) (qP gp (k*31)) RI)) hS (tq 14 20 rfl (yG (yF (qP gp (k*31)) (qP gp (k*31)))) hS ?_)))));refine tq 15 21 rfl (yG (yl (λw' h=>CG h.2.2))) hS (tq 16 22 rfl (yG (yF (qP QB 0) (qP QB 0))) hS (tq 17 23 rfl (yG (yl (λw' h=>CG h.2.1))) hS (tq 18 24 rfl (yG (yB (iV xp) (iV qp) (.bool qq) l2)) hS (tq 19 25 rfl (De rfl _ _ _ rfl true (.bool qq) sE sE) hS ?_))));refine vg kf ?_ _;rw [AB HA]
   simp only [Act.put,zl,zh,zi];clear hS HA e0 e3 e4 k6 A RI R6 l2 h6;have d6:Hid (Bw W1 wr.drew):=f8.trans ((show Bw wr wr.drew from (zw _ _).drew).mono f8.size)
   cases qq with
   |true=>
    have l9:=AC (show ∀(j:Nat) (y:AP×RL),j<k+1->L[j]? =some y->y.1.pid<qp from λj y hj hy=>by
     by_cases e:j=k
     ·subst e;obtain ⟨z1,z2,z3⟩:=AB k5;rw [z1] at hy;obtain rfl:=zr hy;rw [<-z2];exact tu z3.symm
     ·exact AB HB j y om hy)
    go_wp2
    exact ⟨⟨k+1,om,sI,d6,l9⟩,by simp only [intOf];omega⟩
   |false=>
    have j6:=AC (show IU L qp=k from TU (o1 (AB HN)) HB (λy hy=>by
     obtain ⟨z1,z2,z3⟩:=AB k5;rw [z1] at hy;obtain rfl:=zr hy
     rw [<-z2];exact tr z3.symm))
    clear k5 HB f8;obtain ⟨wx,f3⟩:=xE wr.drew;rw [<-f3];have a4:Bw W1 wx:=by rw [f3];exact AB d6
    have a0:=AB c7;have k4:=U.size;have f6:wx.ownsRow base 78 31 (sL gp 0 L.length cp) L.length (Ai L):=Hh i8 (a4.block gp om);have c9:=g1.below a4 g1.lt;have f7:=g9.below a4 g9.lt;have x5:wx.cell? (xK kb 5)=some (sL gp 0 N cp):=by rw [a4.cell (p:=(xK kb 5)) g1.lt];exact c5
    have d9:=AB HN;have F:(L.take k).length=k:=by rw [yr];omega
    have a6:∀j u,(Ai L)[j]? =some u->wx.cell? (xK gp j)=some u:=λj u hu=>by
     have hj:=(zy.1 hu).1;rw [Cw] at hj;rw [f6.cellAt j hj];exact hu
    have D:Ai L=Ai (L.take k)++Ai (L.drop k):=by unfold Ai;rw [<-ur,uq]
    have a3:N<=cp:=by
     rcases f6.2 with ⟨h1,_⟩|⟨g',cap',g7,h1,_,_,h2,_⟩
     ·cases h1
     ·injection h1 with _ _ h3;omega
    obtain ⟨v1,w1,f0,a7,h7,h4⟩:=Df wx base sN [] (uy _ _ _ _) (some (xK gp 0)) cp (L.take k) 79 (λad b1 j u hu=>by
     obtain rfl:=zr b1;rw [Ah,zq]
     exact a6 j u (by rw [D,zo (zy.1 hu).1];exact hu)) (λh=>by cases h) sO (o1 a4.size)
    rw [F] at f0;rw [xt] at a7
    obtain ⟨a1,c1,rfl⟩:∃a1 c1,v1= .slice a1 k c1:=by
     rcases a7.2 with ⟨h1,h2⟩|⟨g',cap',g7,h1,_⟩
     ·exact ⟨none,0,by rw [h1];rw [F] at h2;rw [h2]⟩
     ·exact ⟨_,_,by rw [h1,F]⟩
    have G:wx.grownBy w1 none:=h7;have I:Bw wx w1:=⟨G.os,G.tape,G.output,G.size,λb hb=>G.block b hb sI⟩;have b8:=c9.below I c9.lt;have a9:=f7.below I f7.lt;have y5:w1.cell? (xK kb 5)=some (sL gp 0 N cp):=by rw [I.cell (p:=(xK kb 5)) c9.lt];exact x5
    have k2:(k:Int)<=(cp:Int):=om;obtain ⟨i4,c4,d1,j2⟩:=H4 h4 a7 b8 a9;have E:=AC (xi a4 I);obtain ⟨j7,f9,c6⟩:=H3 a6 D a3;clear f3 a0 k4 f6 c9 f7 a6 D a7 h4 h7 G b8 a9 a4 I a3 d9
    go_upto_region 6 with (at_builtin;refine Ar rfl _ _ _ (by rfl) _ _ _ _ (by rfl) (by rfl) f0 ?_)
    clear f0 x5;obtain ⟨M,J⟩:=xE (w1.alloc (Obj.cells QR.toArray 78));have T:Bw w1 M:=by rw [J];exact bA
    obtain ⟨QH,d8⟩:=xE w1.heap.size;have g8:AE M QH 78 QR:=by rw [J,d8];exact AE.new w1 78 QR
    have i2:M.ownsRow base 78 31 (.slice a1 k c1) (L.take k).length (Ai (L.take k)):=by
     have:=c4.alloc (.cells QR.toArray 78);rw [J];exact this
    have g5:base<=M.heap.size:=by
     have:=c7.2.2.1;have:=U.size;have:=E.1.size;have:=E.2.size;have:=T.size;omega
    obtain ⟨v2,w2,c8,f2,C,i0⟩:=Df M base (.slice a1 k c1) (L.take k) i2 (some (xK QH 0)) 1 [q] 79 (λad b1 j u hu=>by
     obtain rfl:=zr b1;rw [Ah,zq];refine g8.cell ?_;rw [a8.1];have:Ai [q]=rpc q:=by unfold Ai;simp
     rwa [this] at hu) (λh=>by cases h) sO g5
    rw [show ([q]:List (AP×RL)).length=1 from rfl] at c8;have B:(L.take k++[q]).length=k+1:=by rw [zm,F];rfl
    obtain ⟨a2,c2,rfl⟩:∃a2 c2,v2= .slice a2 (k+1) c2:=by
     rcases f2.2 with ⟨h1,h2⟩|⟨g',cap',g7,h1,_⟩
     ·rw [B] at h2;omega
     ·exact ⟨_,_,by rw [h1,B]⟩
    have h8:w.heap.size<=wx.heap.size:=o2 U.size E.1.size;have H:(Value.slice a1 k c1).ownBlock=none\/(Value.slice a1 k c1).ownBlock=some wx.heap.size:=AB i4
    have b3:AE w2 kb 85 X:=by
     have j1:=d1.below T d1.lt;refine j1.grown C ?_;rcases H with e|e<;>rw [e]
     ·simp
     ·have:=c7.1;simp;omega
    have z5:w2.cell? (xK kb 5)=some (sL gp 0 N cp):=by
     have hc:M.cell? (xK kb 5)=_:=(T.cell (p:=(xK kb 5)) d1.lt).trans y5;refine C.cell hc ?_;rcases H with e|e<;>rw [e]
     ·simp
     ·have:=c7.1;simp;omega
    have b0:(Value.slice a2 (k+1) c2).ownBlock=some wx.heap.size\/(Value.slice a2 (k+1) c2).ownBlock=none\/(Value.slice a2 (k+1) c2).ownBlock=some M.heap.size:=by
     rcases i0 with e|e
     ·rcases H with e1|e1
      ·exact .inr (.inl (e.trans e1))
      ·exact .inl (e.trans e1)
     ·exact .inr (.inr e)
    have b5:wx.heap.size<=M.heap.size/\M.heap.size<=w2.heap.size:=⟨o2 E.2.size T.size,C.size⟩
    have V:w.grownBy w2 (some kb)/\∀b,b<w.heap.size->w2.heap[b]? =w.heap[b]? :=by
     have b6:∀b,b<w.heap.size->w2.heap[b]? =w.heap[b]? :=λb hb=>by
      have e1:=U.block b hb;have e2:=E.1.block b (o1 U.size);have e3:=E.2.block b om;have e4:=T.block b (o1 E.2.size)
      have e5:=C.block b om (by
       rcases H with e|e<;>rw [e]
       ·simp
       ·simp;omega)
      rw [e5,e4,e3,e2,e1]
     exact ⟨⟨C.os.trans (T.os.trans (E.2.os.trans (E.1.os.trans U.os))),C.tape.trans (T.tape.trans (E.2.tape.trans (E.1.tape.trans U.tape))),C.output.trans (T.output.trans (E.2.output.trans (E.1.output.trans U.output))),om,λb hb _=>b6 b hb⟩,b6⟩
    obtain ⟨j8,j5,k3,b7⟩:=H4 V f2 b3 b0;have Z:=AC (xi b5 h8);obtain ⟨ip,g6,i6,i3,j9⟩:=DX MX;have g0:=AC (xi g6 (xi i6 i3));rw [J,d8] at c8;clear T g8 i2 g5 f2 C i0 H b0 b3 b5 V h8 g6 i6 i3 j9 J d8 c4 i4 d1 E
    go_upto_region 7 with (first
     |(refine te rfl 78 _ rfl QB 0 (by rfl) QR _ j2.range underlying78 rfl (by rw [GY,a8.2.1];rfl) ?_)
     |(refine Dk rfl 79 78 _ rfl QR (by rfl) ip _ underlying79 g0.1 g0.2.1 (by rw [g0.2.2,a8.2.1]) (by rw [a8.2.1];decide) (by rw [a8.2.1];decide) ?_)
     |(at_builtin;refine Ar rfl _ _ _ (by rfl) _ _ _ _ (by rfl) (by rfl) c8 ?_))
    clear c8 y5;have a0:=AB c7;have C:=AB j8
    have Y:∀j u,(Ai L)[j]? =some u->w2.cell? (xK gp j)=some u:=λj u hu=>by
     have hj:=(zy.1 hu).1;rw [Cw] at hj;have e1:W1.cell? (xK gp j)=some u:=by rw [i8.cellAt j hj];exact hu
     have e2:w2.heap[gp]? =W1.heap[gp]? :=by rw [C.2 gp a0.2.1,U.block gp a0.2.1]
     rw [<-e1];unfold World.cell?;rw [e2]
    have d9:=AB HN;have d0:(L.drop k).length=N-k:=by rw [sx];omega
    obtain ⟨sa,d2⟩:∃sa:Addr,sa=if cp=k then (xK gp 0) else (xK gp (k*31)):=⟨_,rfl⟩
    obtain ⟨v3,w3,f1,d5,O,i1⟩:=Df w2 base (.slice a2 (k+1) c2) (L.take k++[q]) j5 (some sa) (cp-k) (L.drop k) 79 (λad b1 j u hu=>by
     obtain rfl:=zr b1;have hj:=(zy.1 hu).1;rw [Cw,d0] at hj;have a3:=AB c6;rw [d2,vz om,Ah];refine Y _ _ ?_;have j3:(Ai (L.take k)).length=k*31:=by rw [Cw,F]
     rw [AB f9,zn om,j3,yc]
     exact hu) (λh=>by cases h) (by rw [B,d0];omega) (o3 Z.1.1 Z.1.2 Z.2)
    rw [d0] at f1;obtain ⟨M3,b4⟩:=xE ((L.take k++[q]++L.drop k).length);have b2:0<M3:=by rw [b4,zm,B];omega
    rw [<-b4] at d5;obtain ⟨g3,c3,rfl,d7,b9⟩:=d5.form b2
    have i7:w.heap.size<=g3:=by
     have h1:=Z.1.1;have h2:=Z.1.2;have h3:=Z.2;rcases i1 with e|e
     ·rcases AB b7 with e2|e2|e2
      ·have:g3=wx.heap.size:=by have:=e.trans e2;simpa [Value.ownBlock] using this
       omega
      ·have:=e.trans e2;simp [Value.ownBlock] at this
      ·have:g3=M.heap.size:=by have:=e.trans e2;simpa [Value.ownBlock] using this
       omega
     ·have:g3=w2.heap.size:=by simpa [Value.ownBlock] using e
      omega
    have R:∀b,b<w.heap.size->some b≠(Value.slice a2 (k+1) c2).ownBlock:=λb hb e=>by
     have h1:=Z.1.1;have h3:=Z.2;rcases AB b7 with e2|e2|e2
     ·have:b=wx.heap.size:=by have:=e.trans e2;simpa using this
      omega
     ·have:=e.trans e2;simp at this
     ·have:b=M.heap.size:=by have:=e.trans e2;simpa using this
      omega
    have f4:=k3.grown O (R kb a0.1);have u5:cE w3 kb 5 (sL gp 0 N cp):=O.cell z5 (R kb a0.1);have f5:=f4.frozen 5;have a5:=AI (zj w3 (some kb)) 5 (sL g3 0 M3 c3)
    have d3:=AC (show Pn kb base X L q w (.returned (.tuple #[])) (w3.setCell (xK kb 5) (sL g3 0 M3 c3)) from by
     have h9:Ky L q=L.take k++[q]++L.drop k:=by unfold Ky;rw [<-a8.2.2,AB j6]
     refine ⟨rfl,g3,c3,?_,?_,i7,?_⟩
     ·rw [h9,<-b4];exact f4.set 5 _
     ·rw [h9,<-b4];exact Hh d5 (a5.block g3 b9 sO)
     ·refine ⟨a5.os.trans (O.os.trans C.1.os),a5.tape.trans (O.tape.trans C.1.tape),a5.output.trans (O.output.trans C.1.output),zg C.1.size (zg O.size a5.size),λb hb hn=> ?_⟩;have:=C.1.size;have:=O.size
      rw [a5.block b om hn,O.block b om (R b hb),C.2 b hb])
    have l7:(k:Int)<=(N:Int):=om;have m1:(N:Int)<=(cp:Int):=o1 (AB c6);clear d5 O i1 i7 R f4 a5 Y C a0 b4 b2 d7 b9 d0 d9 F B;by_cases h0:cp=k
    ·exfalso;omega
    ·rw [vz h0] at d2;subst d2
     go_wp2_with (at_builtin;refine Ar rfl _ _ _ (by rfl) _ _ _ _ (by rfl) (by rfl) f1 ?_)
     go_end0;rw [AB HQ];exact AB d3
  ·have k1:¬(k:Int)<(N:Int):=om;have h6:Hid (wr.drew.cell? (xK kb 5)=some (sL gp 0 N cp)):=w5
   have R6:=AC (show ∀w':World,((do eqGuard .lss 3 (.tmp 6) (.tmp 11) (iV (k:Nat)) (iV (N:Nat));binOp .lss 3 (iV (k:Nat)) (iV (N:Nat)):Sem Value)).run prog w'= .ok (.bool false) w' from λw'=>by
    clear d4 w5 c5
    go_simp)
   have j6:=AC (show IU L qp=k from TU (o1 (AB HN)) HB (λy hy=>by
    have:=(zy.1 hy).1;have:=AB HN
    omega))
   clear d4 w5
   go_upto_region 2 with fail
   refine Ak ?_;intro A hA;have e0:A.eval (.tmp 0)= qP kb 0:=eH hA;have e3:A.eval (.tmp 3)= qP QB 0:=eH hA;have e4:A.eval (.tmp 4)= iV (k:Nat):=eH hA;have k6:A.tmps.size=52:=eZ hA;have HA:=AC hA;clear hA;refine xf (S:=λw'=>w'.cell? (xK kb 5)=some (sL gp 0 N cp)) kf h6 (λhS=> ?_);refine tq 0 6 rfl (yM (iV (k:Nat))) hS (tq 1 7 rfl (yM (qP kb 0)) hS (tq 2 8 rfl (yN (xK kb 0)) hS (tq 3 9 rfl (yF (qP kb 0) (qP kb 5)) hS (tq 4 10 rfl (yl (λw' h=>JQ h)) hS (tq 5 11 rfl (Do rfl _ _ rfl (sL gp 0 N cp) sE (iV (N:Nat)) (λw' _=>gS)) hS ?_)))));refine tq 6 12 rfl (yB (iV (k:Nat)) (iV (N:Nat)) (.bool false) R6) hS (tq 7 13 rfl (yM (.bool false)) hS (tq 8 14 rfl yO hS (tq 9 15 rfl yO hS ?_)))
   refine tq 10 16 rfl yO hS (tq 11 17 rfl yO hS (tq 12 18 rfl yO hS (tq 13 19 rfl yO hS (tq 14 20 rfl yO hS (tq 15 21 rfl yO hS ?_)))));refine tq 16 22 rfl yO hS (tq 17 23 rfl yO hS (tq 18 24 rfl yO hS (tq 19 25 rfl (De rfl _ _ _ rfl false (.bool false) sE sE) hS ?_)));refine vg kf ?_ _;rw [AB HA];simp only [Act.put,zl,zh,zi];clear hS HA e0 e3 e4 k6 A R6 h6 HB;have d6:Hid (Bw W1 wr.drew):=f8.trans ((show Bw wr wr.drew from (zw _ _).drew).mono f8.size);clear f8
   ·obtain ⟨wx,f3⟩:=xE wr.drew;rw [<-f3];have a4:Bw W1 wx:=by rw [f3];exact AB d6
    have a0:=AB c7;have k4:=U.size;have f6:wx.ownsRow base 78 31 (sL gp 0 L.length cp) L.length (Ai L):=Hh i8 (a4.block gp om);have c9:=g1.below a4 g1.lt;have f7:=g9.below a4 g9.lt;have x5:wx.cell? (xK kb 5)=some (sL gp 0 N cp):=by rw [a4.cell (p:=(xK kb 5)) g1.lt];exact c5
    have d9:=AB HN;have F:(L.take k).length=k:=by rw [yr];omega
    have a6:∀j u,(Ai L)[j]? =some u->wx.cell? (xK gp j)=some u:=λj u hu=>by
     have hj:=(zy.1 hu).1;rw [Cw] at hj;rw [f6.cellAt j hj];exact hu
    have D:Ai L=Ai (L.take k)++Ai (L.drop k):=by unfold Ai;rw [<-ur,uq]
    have a3:N<=cp:=by
     rcases f6.2 with ⟨h1,_⟩|⟨g',cap',g7,h1,_,_,h2,_⟩
     ·cases h1
     ·injection h1 with _ _ h3;omega
    obtain ⟨v1,w1,f0,a7,h7,h4⟩:=Df wx base sN [] (uy _ _ _ _) (some (xK gp 0)) cp (L.take k) 79 (λad b1 j u hu=>by
     obtain rfl:=zr b1;rw [Ah,zq]
     exact a6 j u (by rw [D,zo (zy.1 hu).1];exact hu)) (λh=>by cases h) sO (o1 a4.size)
    rw [F] at f0;rw [xt] at a7
    obtain ⟨a1,c1,rfl⟩:∃a1 c1,v1= .slice a1 k c1:=by
     rcases a7.2 with ⟨h1,h2⟩|⟨g',cap',g7,h1,_⟩
     ·exact ⟨none,0,by rw [h1];rw [F] at h2;rw [h2]⟩
     ·exact ⟨_,_,by rw [h1,F]⟩
    have G:wx.grownBy w1 none:=h7;have I:Bw wx w1:=⟨G.os,G.tape,G.output,G.size,λb hb=>G.block b hb sI⟩;have b8:=c9.below I c9.lt;have a9:=f7.below I f7.lt;have y5:w1.cell? (xK kb 5)=some (sL gp 0 N cp):=by rw [I.cell (p:=(xK kb 5)) c9.lt];exact x5
    have k2:(k:Int)<=(cp:Int):=om;obtain ⟨i4,c4,d1,j2⟩:=H4 h4 a7 b8 a9;have E:=AC (xi a4 I);obtain ⟨j7,f9,c6⟩:=H3 a6 D a3;clear f3 a0 k4 f6 c9 f7 a6 D a7 h4 h7 G b8 a9 a4 I a3 d9
    go_upto_region 6 with (at_builtin;refine Ar rfl _ _ _ (by rfl) _ _ _ _ (by rfl) (by rfl) f0 ?_)
    clear f0 x5;obtain ⟨M,J⟩:=xE (w1.alloc (Obj.cells QR.toArray 78));have T:Bw w1 M:=by rw [J];exact bA
    obtain ⟨QH,d8⟩:=xE w1.heap.size;have g8:AE M QH 78 QR:=by rw [J,d8];exact AE.new w1 78 QR
    have i2:M.ownsRow base 78 31 (.slice a1 k c1) (L.take k).length (Ai (L.take k)):=by
     have:=c4.alloc (.cells QR.toArray 78);rw [J];exact this
    have g5:base<=M.heap.size:=by
     have:=c7.2.2.1;have:=U.size;have:=E.1.size;have:=E.2.size;have:=T.size;omega
    obtain ⟨v2,w2,c8,f2,C,i0⟩:=Df M base (.slice a1 k c1) (L.take k) i2 (some (xK QH 0)) 1 [q] 79 (λad b1 j u hu=>by
     obtain rfl:=zr b1;rw [Ah,zq];refine g8.cell ?_;rw [a8.1];have:Ai [q]=rpc q:=by unfold Ai;simp
     rwa [this] at hu) (λh=>by cases h) sO g5
    rw [show ([q]:List (AP×RL)).length=1 from rfl] at c8;have B:(L.take k++[q]).length=k+1:=by rw [zm,F];rfl
    obtain ⟨a2,c2,rfl⟩:∃a2 c2,v2= .slice a2 (k+1) c2:=by
     rcases f2.2 with ⟨h1,h2⟩|⟨g',cap',g7,h1,_⟩
     ·rw [B] at h2;omega
     ·exact ⟨_,_,by rw [h1,B]⟩
    have h8:w.heap.size<=wx.heap.size:=o2 U.size E.1.size;have H:(Value.slice a1 k c1).ownBlock=none\/(Value.slice a1 k c1).ownBlock=some wx.heap.size:=AB i4
    have b3:AE w2 kb 85 X:=by
     have j1:=d1.below T d1.lt;refine j1.grown C ?_;rcases H with e|e<;>rw [e]
     ·simp
     ·have:=c7.1;simp;omega
    have z5:w2.cell? (xK kb 5)=some (sL gp 0 N cp):=by
     have hc:M.cell? (xK kb 5)=_:=(T.cell (p:=(xK kb 5)) d1.lt).trans y5;refine C.cell hc ?_;rcases H with e|e<;>rw [e]
     ·simp
     ·have:=c7.1;simp;omega
    have b0:(Value.slice a2 (k+1) c2).ownBlock=some wx.heap.size\/(Value.slice a2 (k+1) c2).ownBlock=none\/(Value.slice a2 (k+1) c2).ownBlock=some M.heap.size:=by
     rcases i0 with e|e
     ·rcases H with e1|e1
      ·exact .inr (.inl (e.trans e1))
      ·exact .inl (e.trans e1)
     ·exact .inr (.inr e)
    have b5:wx.heap.size<=M.heap.size/\M.heap.size<=w2.heap.size:=⟨o2 E.2.size T.size,C.size⟩
    have V:w.grownBy w2 (some kb)/\∀b,b<w.heap.size->w2.heap[b]? =w.heap[b]? :=by
     have b6:∀b,b<w.heap.size->w2.heap[b]? =w.heap[b]? :=λb hb=>by
      have e1:=U.block b hb;have e2:=E.1.block b (o1 U.size);have e3:=E.2.block b om;have e4:=T.block b (o1 E.2.size)
      have e5:=C.block b om (by
       rcases H with e|e<;>rw [e]
       ·simp
       ·simp;omega)
      rw [e5,e4,e3,e2,e1]
     exact ⟨⟨C.os.trans (T.os.trans (E.2.os.trans (E.1.os.trans U.os))),C.tape.trans (T.tape.trans (E.2.tape.trans (E.1.tape.trans U.tape))),C.output.trans (T.output.trans (E.2.output.trans (E.1.output.trans U.output))),om,λb hb _=>b6 b hb⟩,b6⟩
    obtain ⟨j8,j5,k3,b7⟩:=H4 V f2 b3 b0;have Z:=AC (xi b5 h8);obtain ⟨ip,g6,i6,i3,j9⟩:=DX MX;have g0:=AC (xi g6 (xi i6 i3));rw [J,d8] at c8;clear T g8 i2 g5 f2 C i0 H b0 b3 b5 V h8 g6 i6 i3 j9 J d8 c4 i4 d1 E
    go_upto_region 7 with (first
     |(refine te rfl 78 _ rfl QB 0 (by rfl) QR _ j2.range underlying78 rfl (by rw [GY,a8.2.1];rfl) ?_)
     |(refine Dk rfl 79 78 _ rfl QR (by rfl) ip _ underlying79 g0.1 g0.2.1 (by rw [g0.2.2,a8.2.1]) (by rw [a8.2.1];decide) (by rw [a8.2.1];decide) ?_)
     |(at_builtin;refine Ar rfl _ _ _ (by rfl) _ _ _ _ (by rfl) (by rfl) c8 ?_))
    clear c8 y5;have a0:=AB c7;have C:=AB j8
    have Y:∀j u,(Ai L)[j]? =some u->w2.cell? (xK gp j)=some u:=λj u hu=>by
     have hj:=(zy.1 hu).1;rw [Cw] at hj;have e1:W1.cell? (xK gp j)=some u:=by rw [i8.cellAt j hj];exact hu
     have e2:w2.heap[gp]? =W1.heap[gp]? :=by rw [C.2 gp a0.2.1,U.block gp a0.2.1]
     rw [<-e1];unfold World.cell?;rw [e2]
    have d9:=AB HN;have d0:(L.drop k).length=N-k:=by rw [sx];omega
    obtain ⟨sa,d2⟩:∃sa:Addr,sa=if cp=k then (xK gp 0) else (xK gp (k*31)):=⟨_,rfl⟩
    obtain ⟨v3,w3,f1,d5,O,i1⟩:=Df w2 base (.slice a2 (k+1) c2) (L.take k++[q]) j5 (some sa) (cp-k) (L.drop k) 79 (λad b1 j u hu=>by
     obtain rfl:=zr b1;have hj:=(zy.1 hu).1;rw [Cw,d0] at hj;have a3:=AB c6;rw [d2,vz om,Ah];refine Y _ _ ?_;have j3:(Ai (L.take k)).length=k*31:=by rw [Cw,F]
     rw [AB f9,zn om,j3,yc]
     exact hu) (λh=>by cases h) (by rw [B,d0];omega) (o3 Z.1.1 Z.1.2 Z.2)
    rw [d0] at f1;obtain ⟨M3,b4⟩:=xE ((L.take k++[q]++L.drop k).length);have b2:0<M3:=by rw [b4,zm,B];omega
    rw [<-b4] at d5;obtain ⟨g3,c3,rfl,d7,b9⟩:=d5.form b2
    have i7:w.heap.size<=g3:=by
     have h1:=Z.1.1;have h2:=Z.1.2;have h3:=Z.2;rcases i1 with e|e
     ·rcases AB b7 with e2|e2|e2
      ·have:g3=wx.heap.size:=by have:=e.trans e2;simpa [Value.ownBlock] using this
       omega
      ·have:=e.trans e2;simp [Value.ownBlock] at this
      ·have:g3=M.heap.size:=by have:=e.trans e2;simpa [Value.ownBlock] using this
       omega
     ·have:g3=w2.heap.size:=by simpa [Value.ownBlock] using e
      omega
    have R:∀b,b<w.heap.size->some b≠(Value.slice a2 (k+1) c2).ownBlock:=λb hb e=>by
     have h1:=Z.1.1;have h3:=Z.2;rcases AB b7 with e2|e2|e2
     ·have:b=wx.heap.size:=by have:=e.trans e2;simpa using this
      omega
     ·have:=e.trans e2;simp at this
     ·have:b=M.heap.size:=by have:=e.trans e2;simpa using this
      omega
    have f4:=k3.grown O (R kb a0.1);have u5:cE w3 kb 5 (sL gp 0 N cp):=O.cell z5 (R kb a0.1);have f5:=f4.frozen 5;have a5:=AI (zj w3 (some kb)) 5 (sL g3 0 M3 c3)
    have d3:=AC (show Pn kb base X L q w (.returned (.tuple #[])) (w3.setCell (xK kb 5) (sL g3 0 M3 c3)) from by
     have h9:Ky L q=L.take k++[q]++L.drop k:=by unfold Ky;rw [<-a8.2.2,AB j6]
     refine ⟨rfl,g3,c3,?_,?_,i7,?_⟩
     ·rw [h9,<-b4];exact f4.set 5 _
     ·rw [h9,<-b4];exact Hh d5 (a5.block g3 b9 sO)
     ·refine ⟨a5.os.trans (O.os.trans C.1.os),a5.tape.trans (O.tape.trans C.1.tape),a5.output.trans (O.output.trans C.1.output),zg C.1.size (zg O.size a5.size),λb hb hn=> ?_⟩;have:=C.1.size;have:=O.size
      rw [a5.block b om hn,O.block b om (R b hb),C.2 b hb])
    have l7:(k:Int)<=(N:Int):=om;have m1:(N:Int)<=(cp:Int):=o1 (AB c6);clear d5 O i1 i7 R f4 a5 Y C a0 b4 b2 d7 b9 d0 d9 F B;by_cases h0:cp=k
    ·rw [vu h0] at d2;have m2:N=k:=om;subst d2;subst h0;subst m2;rw [ya] at f1
     go_wp2_with (at_builtin;refine Ar rfl _ _ _ (by rfl) _ _ _ _ (by rfl) (by rfl) f1 ?_)
     go_end0;rw [AB HQ];exact AB d3
    ·rw [vz h0] at d2;subst d2
     go_wp2_with (at_builtin;refine Ar rfl _ _ _ (by rfl) _ _ _ _ (by rfl) (by rfl) f1 ?_)
     go_end0;rw [AB HQ];exact AB d3
def jW (h:w.ownsRow base 78 31 (sL gp 0 L.length cp) L.length (Ai L)) (hk:k<=L.length) (hn:L.length<=1000) (hb:base<=w.heap.size):
  ∃a1 c1 w1,(Builtin.append_ #[79,79] 79 #[sN,sL gp 0 k cp]).run prog w= .ok (.slice a1 k c1) w1/\w1.ownsRow base 78 31 (.slice a1 k c1) (L.take k).length (Ai (L.take k))/\Bw w w1/\((Value.slice a1 k c1).ownBlock=none\/(Value.slice a1 k c1).ownBlock=some w.heap.size):=by
 have B:(L.take k).length=k:=by rw [yr];omega
 have D:Ai L=Ai (L.take k)++Ai (L.drop k):=by unfold Ai;rw [<-ur,uq]
 obtain ⟨v1,w1,F,E,C,G⟩:=Df w base sN [] (uy _ _ _ _) (some (xK gp 0)) cp (L.take k) 79 (λad H j u hu=>by
  obtain rfl:=zr H;have hj:=(zy.1 hu).1;rw [Ah,zq,h.cellAt j (by rw [Cw,B] at hj;omega),D,zo hj]
  exact hu) (λh=>by cases h) sO hb
 rw [B] at F;rw [xt] at E
 obtain ⟨a1,c1,rfl⟩:∃a1 c1,v1= .slice a1 k c1:=by
  rcases E.2 with ⟨h1,h2⟩|⟨g',cap',I,h1,_⟩
  ·exact ⟨none,0,by rw [h1];rw [B] at h2;rw [h2]⟩
  ·exact ⟨_,_,by rw [h1,B]⟩
 have C:w.grownBy w1 none:=C;exact ⟨a1,c1,w1,F,E,⟨C.os,C.tape,C.output,C.size,λb hb=>C.block b hb sI⟩,G⟩
def Lw (gp cp k:Nat):Addr:=if cp=k then (xK gp 0) else (xK gp (k*31))
def jX {X:List (AP×RL)} (h:w.ownsRow base 78 31 (sL gp 0 L.length cp) L.length (Ai L)) (ho:w.ownsRow base 78 31 v X.length (Ai X)) (hk:k<=L.length) (hn:L.length<=1000) (hx:X.length<=1000) (hb:base<=w.heap.size):
  ∃v3 w3,(Builtin.append_ #[79,79] 79 #[v,.slice (some (Lw gp cp k)) (L.length-k) (cp-k)]).run prog w= .ok v3 w3/\w3.ownsRow base 78 31 v3 (X++L.drop k).length (Ai (X++L.drop k))/\w.grownBy w3 v.ownBlock/\(v3.ownBlock=v.ownBlock\/v3.ownBlock=some w.heap.size)/\L.length<=cp:=by
 have C:L.length<=cp:=by
  rcases h.2 with ⟨h1,_⟩|⟨g',cap',N,h1,_,_,h2,_⟩
  ·cases h1
  ·injection h1 with _ _ h3;omega
 have D:(L.take k).length=k:=by rw [yr];omega
 have E:(L.drop k).length=L.length-k:=sx;have B:Ai L=Ai (L.take k)++Ai (L.drop k):=by unfold Ai;rw [<-ur,uq]
 obtain ⟨v3,w3,F,G,H,I⟩:=Df w base v X ho (some (Lw gp cp k)) (cp-k) (L.drop k) 79 (λad M j u hu=>by
  obtain rfl:=zr M;have hj:=(zy.1 hu).1;rw [Cw,E] at hj;have J:(Ai (L.take k)).length=k*31:=by rw [Cw,D]
  unfold Lw;rw [vz om,Ah,h.cellAt _ om,B,zn om,J,yc]
  exact hu) (λh=>by cases h) (by rw [E];omega) hb
 rw [E] at F;exact ⟨v3,w3,F,G,H,I,C⟩
def Oq (B:Value) (w:World):(Instr.alloc 78 true B).run prog w= .ok (qP w.heap.size 0) (w.alloc (.cells TB.toArray 78)):=kf
def bi (x:AP×RL):∀u∈rpc x,u.oneCell'=true:=λu hx=>by
 unfold rpc Au at hx;simp only [vp,uu,or_false] at hx;rcases hx with h|h|h|h|h|h|h|h|h|h|h|h|h|h|h|h|h|h|h|h|h|h|h|h|h|h|h|h|h|h|h<;>(rw [h];rfl)
def FU (L:List (AP×RL)) (pid:Int):Int:=if L.any (λx=>x.1.par==pid) then 16 else 17
def Ir (kb base:Nat) (krow:List Value) (L:List (AP×RL)) (pid:Int) (w:World) (e:Ending) (w':World):Prop:=
 ((∀x∈L,x.1.par=pid->x.1.st≠2)/\e= .returned (.tuple #[iV 0,iV 0,sN,iV (FU L pid)])/\Bw w w')\/
 (∃j z,L[j]? =some z/\z.1.par=pid/\z.1.st=2/\(∀(i:Nat) (y:AP×RL),i<j->L[i]? =some y->y.1.par=pid->y.1.st≠2)/\e= .returned (.tuple #[iV z.1.pid,iV z.1.su,sN,iV 0])/\
  ∃v,AE w' kb 85 (krow.set 5 v)/\w'.ownsRow base 78 31 v (L.take j++L.drop (j+1)).length (Ai (L.take j++L.drop (j+1)))/\(∀b,v.ownBlock=some b->w.heap.size<=b)/\w.grownBy w' (some kb))
def LH {pid:Int} {j:Nat} {x:AP×RL} (hx:L[j]? =some x):FU (L.take (j+1)) pid=if x.1.par=pid then 16 else FU (L.take j) pid:=by
 unfold FU;rw [uw,hx,List.any_append];by_cases h:x.1.par=pid
 ·simp [h]
 ·have h':(x.1.par==pid)=false:=sU h;simp only [Option.toList_some,List.any_cons,List.any_nil,Bool.or_false,h'];rw [vz h]
def fB (kb base gp cp:Nat) (C:List Value) (L:List (AP×RL)) (pid:Int) (w:World) (hk:AE w kb 85 C) (h5:C[5]? =some (sL gp 0 L.length cp)) (h:w.ownsRow base 78 31 (sL gp 0 L.length cp) L.length (Ai L)) (hn:L.length<=1000) (f3:kb≠gp) (hb:base<=w.heap.size):
  cT 93 #[qP kb 0,iV pid] w (Ir kb base C L pid w):=by
 obtain ⟨N,hN⟩:=xE L.length;have c5:w.cell? (xK kb 5)=some (sL gp 0 N cp):=by rw [hN];exact hk.cell h5
 have a7:=h.lt gp rfl;obtain ⟨QQ,d9⟩:=xE (Ir kb base C L pid w);rw [<-d9];have HQ:=AC d9;have HN:=AC hN;have i4:N<=1000:=om;have HK:=AC hk;have HO:=AC h;have J:=AC (show kb<w.heap.size/\gp<w.heap.size/\base<=w.heap.size/\kb≠gp from ⟨hk.lt,a7.2,hb,f3⟩);clear hk h5 h hn f3 hb hN d9 a7;go_enter func93,ntmps93;go_wp2
 go_loopw [8,9] (λev iv wr=>∃j:Nat,j<=N/\ev= iV (FU (L.take j) pid)/\iv= iV j/\Hid (Bw w wr)/\Hid (∀(i:Nat) (y:AP×RL),i<j->L[i]? =some y->y.1.par=pid->y.1.st≠2)) (λ_ iv _=>N-(intOf iv).toNat)
 case atStart=>exact ⟨0,om,rfl,rfl,AC (zw _ _),AC (λi y hi=>om)⟩
 case round=>
  obtain ⟨j,hj,rfl,rfl,O,HB⟩:=hrel;obtain ⟨ec,c6⟩:=xE (FU (L.take j) pid);rw [<-c6];have g7:=AC c6;clear c6;have j0:(0:Int)<=(j:Int):=om;have w5:wr.cell? (xK kb 5)=some (sL gp 0 N cp):=by rw [O.cell (p:=(xK kb 5)) J.1];exact c5
  by_cases h8:j<N
  ·have j1:(j:Int)<(N:Int):=om;obtain ⟨x,hx⟩:∃x,L[j]? =some x:=⟨_,zz (o1 (AB HN))⟩;have f0:wr.ownsRow base 78 31 (sL gp 0 L.length cp) L.length (Ai L):=Hh HO (O.block gp J.2.1)
   have d5:wr.rangeAt gp (j*31) (rpc x):=λi v hv=>by
    have hi:=(zy.1 hv).1;rw [GO] at hi;have:=AB HN;rw [f0.cellAt _ om];exact G0 L j i x v hx hv
   obtain ⟨XR,b2⟩:=xE (rpc x);rw [<-b2] at d5;have f8:XR.length=31:=by rw [b2];rfl
   have f1:∀u∈XR,u.oneCell'=true:=by rw [b2];exact bi x
   obtain ⟨X,E⟩:∃v,v=x.1.pid:=⟨_,rfl⟩;obtain ⟨U,F⟩:∃v,v=x.1.par:=⟨_,rfl⟩;obtain ⟨f4,Z⟩:∃v,v=x.1.st:=⟨_,rfl⟩;obtain ⟨b9,V⟩:∃v,v=x.1.su:=⟨_,rfl⟩;have g6:=AC (show XR[0]? =some (iV X)/\XR[1]? =some (iV U)/\XR[2]? =some (iV f4)/\XR[3]? =some (iV b9) from by rw [b2,E,F,Z,V];exact ⟨rfl,rfl,rfl,rfl⟩);have f6:=AC d5;have a3:=AC (xi f8 f1);have HX:=AC (xi hx (xi E (xi F (xi Z V))));have g8:=AC f0;clear d5 b2 f8 f1 hx E F Z V f0
   go_upto_region 6 with (first
    |(refine te rfl 78 _ rfl gp (j*31) (by rfl) XR _ (AB f6) underlying78 rfl (by rw [GY,a3.1];rfl) ?_)
    |(refine Bh rfl 78 rfl TB.toArray Oq ?_)
    |(refine Bo rfl 78 _ _ rfl wr.heap.size XR (by rfl) (by rfl) 78 TB (AE.new wr 78 _) (by rw [GY,a3.1];rfl) (by rw [a3.1];rfl) a3.2 ?_;intro w6 H6 G6))
   have b6:Bw wr w6:=((zw wr.heap.size wr).alloc (zx _) _).trans (Aa G6 (zx _) sI);have B:=AC (O.trans (b6.mono O.size));have b0:=Hh g8 (b6.block gp (o2 J.2.1 O.size));have v5:w6.cell? (xK kb 5)=some (sL gp 0 N cp):=by rw [b6.cell (p:=(xK kb 5)) (show kb<wr.heap.size by have:=J.1;have:=O.size;omega)];exact w5
   have h6:=AB H6;obtain ⟨QB,d6⟩:=xE wr.heap.size;rw [<-d6] at h6 ⊢;obtain ⟨e0,e1,e2,e3⟩:=AB g6;have q0:=h6.cell e0;have q1:=h6.cell e1;have q2:=h6.cell e2;have q3:=h6.cell e3;have b3:=AC (xi q0 q3);have a2:=AC b0;have h3:=AC (show w.heap.size<=QB/\QB<w6.heap.size from ⟨by rw [d6];exact O.size,h6.lt⟩);clear b6 b0 h6 e0 e1 e2 e3 H6 G6 d6 O g8 f6 a3 g6 w5 c5;by_cases hp:U=pid
   ·by_cases hz:f4=2
    ·subst hp hz;obtain ⟨a1,c1,w7,f7,f9,T,d0⟩:=jW a2 (k:=j) (o1 (AB HN)) (o1 (AB HN)) (o2 J.2.2.1 B.size);have b8:kb<w6.heap.size:=o2 J.1 B.size;have a7:gp<w6.heap.size:=o2 J.2.1 B.size;have y5:w7.cell? (xK kb 5)=some (sL gp 0 N cp):=by rw [T.cell (p:=(xK kb 5)) b8];exact v5
     have a9:=Hh a2 (T.block gp a7);have a5:(L.take j).length=j:=by rw [yr];have:=AB HN;omega
     obtain ⟨J1,d3⟩:=xE (j+1);obtain ⟨v8,w8,R,b5,G,g0,a4⟩:=jX a9 f9 (k:=J1) (o1 (AB HN)) (o1 (AB HN)) (by rw [a5];omega) (o3 J.2.2.1 B.size T.size)
     obtain ⟨a8,n8,c8,rfl⟩:∃a8 n8 c8,v8= .slice a8 n8 c8:=by
      rcases b5.2 with ⟨h1,_⟩|⟨g',cap',h4,h1,_⟩
      ·exact ⟨_,_,_,h1⟩
      ·exact ⟨_,_,_,h1⟩
     rw [<-AB HN] at R a4;have D:=B.trans (T.mono B.size);have g9:=B.size;have h2:=T.size;have c3:=AB J;have b1:=AB h3
     have a0:∀b,b<w6.heap.size->some b≠(Value.slice a1 j c1).ownBlock:=λb hb e=>by
      rcases d0 with q|q
      ·rw [q] at e;simp at e
      ·rw [q] at e;simp at e;omega
     have d4:∀b,(Value.slice a8 n8 c8).ownBlock=some b->w.heap.size<=b:=λb e=>by
      rcases g0 with q|q
      ·rw [q] at e;rcases d0 with q2|q2
       ·rw [q2] at e;cases e
       ·rw [q2] at e;have:w6.heap.size=b:=sU e;omega
      ·rw [q] at e;have:w7.heap.size=b:=sU e;omega
     have f2:AE w7 kb 85 C:=HK.below D HK.lt;have c7:=f2.grown G (a0 kb b8);have z5:cE w8 kb 5 (sL gp 0 N cp):=G.cell y5 (a0 kb b8);have f5:=c7.frozen 5;have p0:w8.cell? (xK QB 0)=some (iV X):=G.cell (by rw [T.cell (p:=(xK QB 0)) b1.2];exact b3.1) (a0 QB b1.2);have p3:w8.cell? (xK QB 3)=some (iV b9):=G.cell (by rw [T.cell (p:=(xK QB 3)) b1.2];exact b3.2) (a0 QB b1.2);have H:=AI (zj w8 (some kb)) 5 (.slice a8 n8 c8);obtain ⟨W9,b7⟩:=xE (w8.setCell (xK kb 5) (.slice a8 n8 c8));rw [<-b7] at H;obtain ⟨zp,d7⟩:=xE X;obtain ⟨zs,c2⟩:=xE b9;have I:=AC (show W9.drew.cell? (xK QB 0)=some (iV zp)/\W9.drew.cell? (xK QB 3)=some (iV zs) from ⟨by rw [d7];exact H.cell p0 sO,by rw [c2];exact H.cell p3 sO⟩)
     have M:=AC (show Ir kb base C L U w (.returned (.tuple #[iV zp,iV zs,sN,iV 0])) W9.drew from by
      obtain ⟨g1,g2,g3,g4,g5⟩:=AB HX;rw [d3] at b5;refine .inr ⟨j,x,g1,g3.symm,g4.symm,AB HB,by rw [d7,c2,g2,g5],.slice a8 n8 c8,?_,?_,d4,?_⟩
      ·have:AE W9 kb 85 (C.set 5 (.slice a8 n8 c8)):=by rw [b7];exact c7.set 5 (.slice a8 n8 c8)
       exact this.heap rfl
      ·have a6:W9.ownsRow base 78 31 (.slice a8 n8 c8) (L.take j++L.drop (j+1)).length (Ai (L.take j++L.drop (j+1))):=b5.kept H (.inr (λe=>o1 (d4 kb e)));exact a6
      ·have c0:∀b,b<w.heap.size->w8.heap[b]? =w.heap[b]? :=λb hb=>by rw [G.block b om (a0 b om),D.block b hb]
       exact ⟨H.os.trans (G.os.trans D.os),H.tape.trans (G.tape.trans D.tape),H.output.trans (G.output.trans D.output),by show w.heap.size<=W9.heap.size;have:=H.size;have:=G.size;omega,λb hb hn=>by show W9.heap[b]? =_;rw [H.block b (o1 G.size) hn];exact c0 b hb⟩)
     have b4:=AC b7;have i0:(j:Int)<=(cp:Int):=om;have h7:(J1:Int)<=(N:Int):=om;have i2:(0:Int)<=(J1:Int):=om;have h9:(j:Int)+1=(J1:Int):=om;have i3:=AC d3;have i1:(N:Int)<=(cp:Int):=om;clear b8 a7 a9 f9 T d0 b5 G g0 a4 D g9 h2 c3 b1 a0 d4 f2 c7 p0 p3 H b7 d7 c2 a5 d3
     go_upto_region 11 with (at_builtin;refine Ar rfl _ _ _ (by rfl) _ _ _ _ (by rfl) (by rfl) f7 ?_)
     clear f7 v5 q0 q1 q2 q3;by_cases c4:cp=J1
     ·have d2:Lw gp cp J1=(xK gp 0):=by unfold Lw;rw [vu c4]
      have h0:N=J1:=om;rw [d2] at R;subst c4;subst h0;rw [ya] at R
      go_upto_region 13 with (at_builtin;refine Ar rfl _ _ _ (by rfl) _ _ _ _ (by rfl) (by rfl) R ?_)
      rw [<-AB b4];clear b4 y5 z5 f5 R;refine Ak ?_;intro A hA;have c9:A.eval (.tmp 10)= qP QB 0:=eH hA;have Y:A.tmps.size=61:=eZ hA;have HA:=AC hA;clear hA;refine xf (S:=λw'=>w'.cell? (xK QB 0)=some (iV zp)/\w'.cell? (xK QB 3)=some (iV zs)) kf I (λhS=> ?_);refine tq 0 56 rfl (yF (qP QB 0) (qP QB 0)) hS (tq 1 57 rfl (yl (λw' h=>CG h.1)) hS (tq 2 58 rfl (yF (qP QB 0) (qP QB 3)) hS (tq 3 59 rfl (yl (λw' h=>CG h.2)) hS (tq 4 4 rfl (yA (iV zp)) hS (tq 5 5 rfl (yA (iV zs)) hS ?_)))));refine tq 6 6 rfl (EV rfl _ rfl sN (by simp [Ae,AU,Y,go_sem])) hS (tq 7 7 rfl (EV rfl _ rfl (iV 0) (by simp [Ae,AU,Y,go_sem])) hS ?_);refine vg kf ?_ _;rw [AB HA]
      simp only [Act.put,zl,zh,zi];clear hS HA c9 Y A I;go_wp2;refine xh (v:= .tuple #[iV zp,iV zs,sN,iV 0]) (by simp [results,results93,go_sem]) rfl ?_;rw [AB HQ];exact AB M
     ·have d2:Lw gp cp J1=(xK gp (J1*31)):=by unfold Lw;rw [vz c4]
      rw [d2] at R
      go_upto_region 13 with (at_builtin;refine Ar rfl _ _ _ (by rfl) _ _ _ _ (by rfl) (by rfl) R ?_)
      rw [<-AB b4];clear b4 y5 z5 f5 R;refine Ak ?_;intro A hA;have c9:A.eval (.tmp 10)= qP QB 0:=eH hA;have Y:A.tmps.size=61:=eZ hA;have HA:=AC hA;clear hA;refine xf (S:=λw'=>w'.cell? (xK QB 0)=some (iV zp)/\w'.cell? (xK QB 3)=some (iV zs)) kf I (λhS=> ?_);refine tq 0 56 rfl (yF (qP QB 0) (qP QB 0)) hS (tq 1 57 rfl (yl (λw' h=>CG h.1)) hS (tq 2 58 rfl (yF (qP QB 0) (qP QB 3)) hS (tq 3 59 rfl (yl (λw' h=>CG h.2)) hS (tq 4 4 rfl (yA (iV zp)) hS (tq 5 5 rfl (yA (iV zs)) hS ?_)))));refine tq 6 6 rfl (EV rfl _ rfl sN (by simp [Ae,AU,Y,go_sem])) hS (tq 7 7 rfl (EV rfl _ rfl (iV 0) (by simp [Ae,AU,Y,go_sem])) hS ?_);refine vg kf ?_ _;rw [AB HA]
      simp only [Act.put,zl,zh,zi];clear hS HA c9 Y A I;go_wp2;refine xh (v:= .tuple #[iV zp,iV zs,sN,iV 0]) (by simp [results,results93,go_sem]) rfl ?_;rw [AB HQ];exact AB M
    ·have d1:=AC (show ∀(i:Nat) (y:AP×RL),i<j+1->L[i]? =some y->y.1.par=pid->y.1.st≠2 from λi y hi hy=>by
      by_cases e:i=j
      ·subst e;obtain ⟨g1,g2,g3,g4,g5⟩:=AB HX;rw [g1] at hy;obtain rfl:=zr hy;intro _;rw [<-g4];exact hz
      ·exact AB HB i y om hy)
     have d8:=AC (show FU (L.take (j+1)) pid=16 from by
      obtain ⟨g1,g2,g3,g4,g5⟩:=AB HX
      rw [LH g1,vu (by rw [<-g3];exact hp)])
     subst hp;go_wp2;exact ⟨⟨j+1,om,by rw [AB d8],sI,B,d1⟩,by simp only [intOf];omega⟩
   ·have d1:=AC (show ∀(i:Nat) (y:AP×RL),i<j+1->L[i]? =some y->y.1.par=pid->y.1.st≠2 from λi y hi hy=>by
     by_cases e:i=j
     ·subst e;obtain ⟨g1,g2,g3,g4,g5⟩:=AB HX;rw [g1] at hy;obtain rfl:=zr hy;intro h;exact absurd (g3.trans h) hp
     ·exact AB HB i y om hy)
    have d8:=AC (show FU (L.take (j+1)) pid=ec from by
     obtain ⟨g1,g2,g3,g4,g5⟩:=AB HX
     rw [LH g1,vz (by rw [<-g3];exact hp),AB g7])
    go_wp2;exact ⟨⟨j+1,om,by rw [AB d8],sI,B,d1⟩,by simp only [intOf];omega⟩
  ·have j1:¬(j:Int)<(N:Int):=om;obtain rfl:j=N:=om
   have M:=AC (show Ir kb base C L pid w (.returned (.tuple #[iV 0,iV 0,sN,iV ec])) wr from .inl ⟨λx hx=>by
    obtain ⟨i,hi⟩:=yj.1 hx;have h1:=(zy.1 hi).1;have:=AB HN
    exact AB HB i x om hi,by rw [AB g7,AB HN,uh],AB O⟩)
   go_wp2;refine xh (v:= .tuple #[iV 0,iV 0,sN,iV ec]) (by simp [results,results93,go_sem]) rfl ?_;rw [AB HQ];exact AB M
def RU:∀(PS:List Pg) (j:Nat) (u:Value),(∀p∈PS,p.bytes.length=256)->(As PS)[j]? =some u->∃i p o,PS[i]? =some p/\j=i*258+o/\o<258/\(AY p.num p.perm p.bytes)[o]? =some u
 |[],j,u,_,h=>by simp [As] at h
 |a::r,j,u,hb,h=>by
  have hl:(AY a.num a.perm a.bytes).length=258:=by
   have:=hb a sI;simp [AY,AG,this]
  unfold As at h;rw [vi] at h;by_cases hj:j<258
  ·rw [zo om] at h;exact ⟨0,a,j,rfl,om,hj,h⟩
  ·rw [zn om,hl] at h;obtain ⟨i,p,o,h1,h2,h3,h4⟩:=RU r (j-258) u (λp hp=>hb p (by simp [hp])) h;exact ⟨i+1,p,o,h1,om,h3,h4⟩
def Nn (h:Bs w g PS) (hb:∀p∈PS,p.bytes.length=256):∀j u,(As PS)[j]? =some u->w.cell? (xK g j)=some u:=λj u hu=>by
 obtain ⟨i,p,o,h1,rfl,h3,h4⟩:=RU PS j u hb hu;obtain ⟨a1,a2,a3⟩:=h i p h1;clear h3;rcases o with _|_|o
 ·have:u= iV p.num:=by simpa [AY] using h4.symm
  rw [this,sq];exact a1
 ·have:u= iV p.perm:=by simpa [AY] using h4.symm
  rw [this,zq];exact a2
 ·have:=a3 o u (by simpa [AY] using h4);rwa [show i*258+2+o=i*258+(o+1+1) by omega] at this
def Xh (PS:List Pg):∀u∈As PS,u.oneCell'=true:=λu hu=>by
 obtain ⟨p,_,h⟩:=sy.1 hu;unfold AY at h;rcases vp.1 h with rfl|h
 ·rfl
 ·rcases vp.1 h with rfl|h
  ·rfl
  ·obtain ⟨x,_,rfl⟩:=yt.1 h;rfl
def Hl (hb:∀p∈PS,p.bytes.length=256):(As PS).length=PS.length*258:=by
 induction PS with
 |nil=>rfl
 |cons a r ih=>
  have h1:=hb a sI;have h2:=ih (λp hp=>hb p (by simp [hp]));unfold As at h2 ⊢;rw [vi,zm,h2,um];simp [AY,AG,h1];omega
def JS (w:World) (base:Nat) (v:Value) (X:List Pg) (hX:∀p∈X,p.bytes.length=256) (C:w.ownsRow base 136 258 v X.length (As X)) (a:Option Addr) (c:Nat) (Y:List Pg) (E:∀p∈Y,p.bytes.length=256) (ty:TypeId) (hY:∀ad,a=some ad->∀j u,(As Y)[j]? =some u->w.cell? (ad.add j)=some u) (ha:a=none->Y=[]) (hn:X.length+Y.length<=100000) (B:base<=w.heap.size):
  ∃v' w',(Builtin.append_ #[75,75] ty #[v,.slice a Y.length c]).run prog w= .ok v' w'/\w'.ownsRow base 136 258 v' (X++Y).length (As (X++Y))/\w.grownBy w' v.ownBlock/\(v'.ownBlock=v.ownBlock\/v'.ownBlock=some w.heap.size):=by
 obtain ⟨ip,F,H,D,G⟩:=DX Jo;have:=JD (P:=prog) w base 75 ty 136 ip _ 258 272 underlying75 F H D G (by simp [Value.cells,AY,AG,AT]) dz v X.length (As X) C a Y.length c (As Y) (Hl E) hY (λh=>by rw [ha h];rfl) (Xh Y) (by unfold maxLen;omega) om B;rw [<-zm,show As X++As Y=As (X++Y) from ur.symm] at this;exact this
def KG (d:cE w b o (.slice a n c)):(Instr.loadAt 75 (qP b o)).run prog w= .ok (.slice a n c) w:=gS
def DP (L:List (AP×RL)):List Nat:=L.map (λx=>x.1.PS.length)
def Mv (L:List (AP×RL)):bN (Ai L) (DP L):=by
 refine ⟨by rw [Cw];unfold DP;rw [zc],λj n hn=> ?_⟩;unfold DP at hn;rw [ze] at hn;obtain ⟨x,hx,rfl⟩:=up.1 hn;exact ⟨x.2.aa,x.2.ca,G0 L j 22 x _ hx (by unfold rpc Au;rfl)⟩
structure jZ (L:List (AP×RL)) (k:Nat):Prop where
 pos:1<=k
 free:Fs L k<0
 used:∀j:Nat,1<=j->j<k->0<=Fs L j
def Xi (h:0<=Fs L p):p∈L.map (λx=>x.1.pid):=by
 unfold Fs at h
 cases hf:L.findIdx? (λx=>x.1.pid==p) with
 |none=>rw [hf] at h;simp at h
 |some i=>
  obtain ⟨hi,he,_⟩:=uo.1 hf;have:L[i].1.pid=p:=sU he;rw [<-this];exact ui (f:=λx:AP×RL=>x.1.pid) (rp hi)
def mB (h:∀j:Nat,1<=j->j<k->0<=Fs L j):k<=L.length+1:=by
 have:=Lt ((List.range (k-1)).map (λj=>((j+1:Nat):Int))) (L.map (λx=>x.1.pid)) (by
  refine List.Pairwise.map _ (λa b B e=>B ?_) List.nodup_range;omega) (λx hx=>by
  obtain ⟨j,hj,rfl⟩:=yt.1 hx;rw [zf] at hj
  exact Xi (h (j+1) om om))
 rw [zc,tx,zc] at this;omega
def fkA (x:AP) (v:Int):AP:={x with pid:=v,par:=x.pid}
def bk {n:Nat}:∀{l:List Nat},n∈l->n<=l.sum
 |a::r,h=>by
  rw [rz];rcases vp.1 h with rfl|h
  ·omega
  ·have:=bk h;omega
def Ux {B C:Nat} {e:TypeId} {xs:List Value} (h:w.ownsRow base e B (sL g 0 n C) n xs):n<=C:=by
 rcases h.2 with ⟨h1,h2⟩|⟨g',cap',D,h1,_,_,h2,_⟩
 ·omega
 ·injection h1 with _ _ h3;omega
def ja (w:World) (xa:Option Addr) (ga xc:Nat) (PS:List Pg) (hb:∀p∈PS,p.bytes.length=256) (hn:PS.length<=100000) (ha:0<PS.length->xa=some (xK ga 0)/\Bs w ga PS):
  ∃pa pc pg w',(Builtin.append_ #[75,75] 75 #[sN,.slice xa PS.length xc]).run prog w= .ok (.slice pa PS.length pc) w'/\Bw w w'/\PS.length<=pc/\(0<PS.length->pa=some (xK pg 0)/\pg=w.heap.size/\pg<w'.heap.size/\Bs w' pg PS/\∀i,w'.frozen? (xK pg i)=false):=by
 obtain ⟨v,w',hr,ho,hg,hv⟩:=JS w w.heap.size sN [] sI (uy _ _ _ _) xa xc PS hb 75 (λad C j u hu=>by
  have hj:=(zy.1 hu).1;rw [Hl hb] at hj;obtain ⟨h1,h2⟩:=ha om;rw [h1] at C;obtain rfl:=zr C;rw [Ah,zq];exact Nn h2 hb j u hu) (λh=>by
  cases PS with
  |nil=>rfl
  |cons a r=>have:=(ha sI).1;rw [h] at this;cases this) (sU hn) (zx _)
 rw [xt] at ho;have hg:w.grownBy w' none:=hg;have B:Bw w w':=⟨hg.os,hg.tape,hg.output,hg.size,λb hb=>hg.block b hb sI⟩;by_cases h0:0<PS.length
 ·obtain ⟨pg,pc,rfl,h2,h3⟩:=ho.form h0;refine ⟨_,pc,pg,w',hr,B,Ux ho,λ_=>⟨rfl,?_,(ho.lt pg rfl).2,UG hb ho,λi=>ho.frozenAt i⟩⟩;rcases hv with e|e
  ·simp [Value.ownBlock] at e
  ·simpa [Value.ownBlock] using e
 ·rcases ho.2 with ⟨h1,h2⟩|⟨g',cap',D,h1,_⟩
  ·rw [h1] at hr;exact ⟨none,0,0,w',by rw [hr,h2],B,om,λh=>absurd h h0⟩
  ·rw [h1] at hr;exact ⟨_,_,0,w',hr,B,om,λh=>absurd h h0⟩
def G7 (kb base:Nat) (krow:List Value) (lp lf:Int) (L:List (AP×RL)) (x:AP×RL) (w:World) (e:Ending) (w':World):Prop:=
 (lp<=(L.length:Int)/\e= .returned (.tuple #[iV 0,iV 19])/\Bw w w')\/
 ((L.length:Int)<lp/\lf<((DP L).sum:Int)+(x.1.PS.length:Int)/\e= .returned (.tuple #[iV 0,iV 7])/\Bw w w')\/
 ((L.length:Int)<lp/\((DP L).sum:Int)+(x.1.PS.length:Int)<=lf/\∃(j:Nat) (l:RL) (g c:Nat),jZ L j/\e= .returned (.tuple #[iV (j:Nat),iV 0])/\AE w' kb 85 (krow.set 5 (sL g 0 (Ky L (fkA x.1 j,l)).length c))/\w'.ownsRow base 78 31 (sL g 0 (Ky L (fkA x.1 j,l)).length c) (Ky L (fkA x.1 j,l)).length (Ai (Ky L (fkA x.1 j,l)))/\w.heap.size<=g/\x.1.PS.length<=l.ca/\(0<x.1.PS.length->l.aa=some (xK l.ga 0)/\w.heap.size<=l.ga/\l.ga<w'.heap.size/\l.ga≠g/\Bs w' l.ga x.1.PS/\∀i,w'.frozen? (xK l.ga i)=false)/\w.grownBy w' (some kb))
def fC (base kb g d8 gp cp:Nat) (k:RK) (BL:List Nat) (oa:Option Addr) (on oc:Nat) (L:List (AP×RL)) (i:Nat) (x:AP×RL) (w:World) (hk:EB w base kb g d8 k) (b4:k.pv= sL gp 0 L.length cp) (g8:k.ov= .slice oa on oc) (j4:Ps k.inos BL) (i7:k.inos.length<=100000) (f6:BL.sum<=10000000) (k6:(DP L).sum<=1000000)
  (h:RPs w base gp cp L) (hx:L[i]? =some x) (H:∀p∈x.1.PS,p.bytes.length=256) (k8:x.1.PS.length<=100000) (i5:gp≠kb) (hN:L.length<=1000) (hb:base<=w.heap.size):
  cT 91 #[qP kb 0,qP gp (i*31)] w (G7 kb base (k.cells (sL g 0 k.inos.length d8)) k.lp k.lf L x w):=by
 obtain ⟨D,B⟩:=xE (k.cells (sL g 0 k.inos.length d8));have i9:AE w kb 85 D:=by rw [B];exact hk.1
 obtain ⟨N,b2⟩:=xE L.length;obtain ⟨lp,f3⟩:=xE k.lp;obtain ⟨lf,b8⟩:=xE k.lf;obtain ⟨F,hF⟩:=xE ((DP L).sum);obtain ⟨n,hn⟩:=xE x.1.PS.length
 have j0:n<=F:=by
  rw [hn,hF];have hm:n∈DP L:=by rw [hn];exact ui (f:=λx:AP×RL=>x.1.PS.length) (zv hx)
  have:=bk hm;omega
 have c5:w.cell? (xK kb 5)=some (sL gp 0 N cp):=by rw [b2,<-b4];exact hk.1.cell rfl
 have c0:w.cell? (xK kb 0)=some (iV lp):=by rw [f3];exact hk.1.cell rfl
 have c1:w.cell? (xK kb 1)=some (iV lf):=by rw [b8];exact hk.1.cell rfl
 have h5:D[5]? =some (sL gp 0 L.length cp):=by rw [B,<-b4];rfl
 obtain ⟨qb,d4⟩:∃qb:Bool,qb=decide ((N:Int)>=lp):=⟨_,rfl⟩;have f8:=AC (show w.drew.cell? (xK kb 5)=some (sL gp 0 N cp)/\w.drew.cell? (xK kb 0)=some (iV lp) from ⟨c5,c0⟩)
 have R1:=AC (show ∀w':World,((do eqGuard .geq 3 (.tmp 13) (.tmp 18) (iV (N:Nat)) (iV lp);binOp .geq 3 (iV (N:Nat)) (iV lp):Sem Value)).run prog w'= .ok (.bool qb) w' from λw'=>by
  rw [d4];clear hk b4 g8 j4 i7 f6 k6 h hx H k8 i5 hN hb B i9 b2 f3 b8 hF hn j0 c5 c0 c1 h5 d4 f8
  go_simp)
 have j7:∀W,Bw w W->cT 62 #[qP kb 0] W λe w'=>e= .returned (.agg (BK (N:Nat) (F:Nat) (on:Nat) k.inos.length BL.sum).toArray)/\Bw W w':=λW hW=>by
  have l7:(DP L).length=N:=by unfold DP;rw [zc,b2]
  have:=GV base kb g d8 k (DP L) BL oa on oc W (hk.below hW) (MR (Mv L) b4 (h.below hW).own) g8 j4 i7 (by rw [l7];omega) om f6;rw [l7,<-hF] at this;exact this
 have f2:=AC j7;obtain ⟨QQ,j1⟩:=xE (G7 kb base D lp lf L x w);rw [<-B,<-f3,<-b8,<-j1];have HQ:=AC j1;have b9:=AC (xi i9 h5);have a8:=AC h;have HX:=AC (xi hx H);have M:=AC (xi b2 (xi hF (xi hn d4)));have o8:N<=1000:=om;have o6:F<=1000000:=om;have n5:=(zy.1 hx).1;have i0:(0:Int)<=(i:Int):=om;have i1:(i:Int)<(N:Int):=om;have n2:=AC (show n<=100000 by omega);have c6:=AC (show kb<w.heap.size/\gp<w.heap.size/\base<=w.heap.size/\kb≠gp from ⟨hk.1.lt,h.lt.2,hb,i5.symm⟩);obtain ⟨kn,j5⟩:∃kn:Int,kn=(k.inos.length:Nat):=⟨_,rfl⟩;obtain ⟨d9,b5⟩:∃d9:Int,d9=(BL.sum:Nat):=⟨_,rfl⟩;rw [<-j5,<-b5] at f2;clear hk b4 g8 j4 i7 f6 k6 h hx H k8 i5 hN hb B i9 b2 f3 b8 hF hn d4 j1 h5 j7 n5 j5 b5;go_enter func91,ntmps91
 go_upto_region 1 with fail
 refine Ak ?_;intro A hA;have e0:A.eval (.tmp 0)= qP kb 0:=eH hA;have i3:A.tmps.size=66:=eZ hA;have HA:=AC hA;clear hA;refine xf (S:=λw'=>w'.cell? (xK kb 5)=some (sL gp 0 N cp)/\w'.cell? (xK kb 0)=some (iV lp)) kf f8 (λhS=> ?_);refine tq 0 9 rfl (yM (qP kb 0)) hS (tq 1 10 rfl (yN (xK kb 0)) hS (tq 2 11 rfl (yF (qP kb 0) (qP kb 5)) hS (tq 3 12 rfl (yl (λw' h=>JQ h.1)) hS (tq 4 13 rfl (Do rfl _ _ rfl (sL gp 0 N cp) sE (iV (N:Nat)) (λw' _=>gS)) hS (tq 5 14 rfl (yM (qP kb 0)) hS ?_)))));refine tq 6 15 rfl (yN (xK kb 0)) hS (tq 7 16 rfl (yF (qP kb 0) (qP kb 0)) hS (tq 8 17 rfl (yF (qP kb 0) (qP kb 0)) hS ?_))
 refine tq 9 18 rfl (yl (λw' h=>CG h.2)) hS (tq 10 19 rfl (yB (iV (N:Nat)) (iV lp) (.bool qb) R1) hS ?_);refine vg kf ?_ _;rw [AB HA];simp only [Act.put,zl,zh,zi];clear hS HA e0 i3 A R1 f8;have a2:Bw w w.drew:=(zw _ _).drew
 cases qb with
 |true=>
  have E:=AC (show G7 kb base D lp lf L x w (.returned (.tuple #[iV 0,iV 19])) w.drew from .inl ⟨by
   obtain ⟨z1,z2,z3,z4⟩:=AB M;have:=tu z4.symm
   omega,rfl,a2⟩)
  obtain ⟨W3,l6⟩:=xE w.drew;rw [<-l6] at E ⊢;clear l6 a2 j0 c5 c0 c1 f2;go_wp2;rw [AB HQ]
  exact AB E
 |false=>
  have HU:=AC (AB f2 w.drew a2);have g9:=AC a2;clear a2 c5 c0
  go_wp2_with fail
  refine HU.mono ?_;rintro e w3 ⟨rfl,Z⟩;unfold BK;have Z:Bw w w3:=g9.trans (Z.mono g9.size);obtain ⟨W4,a4⟩:=xE (w3.alloc (Obj.cells #[iV (N:Nat),iV (F:Nat),iV (on:Nat),iV kn,iV d9] 68));have a0:Bw w W4:=by rw [a4];exact Z.alloc Z.size _
  obtain ⟨UB,c7⟩:=xE w3.heap.size;have i2:AE W4 UB 68 [iV (N:Nat),iV (F:Nat),iV (on:Nat),iV kn,iV d9]:=by rw [a4,c7];exact AE.new w3 68 _
  have i4:=a8.below a0;obtain ⟨hx,H⟩:=AB HX;obtain ⟨xa,d2⟩:=xE x.2.aa;obtain ⟨xc,f4⟩:=xE x.2.ca
  have a5:W4.cell? (xK gp (i*31+22))=some (.slice xa n xc):=by
   rw [d2,f4,M.2.2.1];exact i4.cell hx (by unfold rpc Au;rfl)
  have h8:=AC (show W4.drew.cell? (xK UB 1)=some (iV (F:Nat))/\W4.drew.cell? (xK gp (i*31+22))=some (.slice xa n xc)/\W4.drew.cell? (xK kb 1)=some (iV lf) from ⟨i2.cell rfl,a5,by show W4.cell? _=_;rw [a0.cell (p:=(xK kb 1)) c6.1];exact c1⟩);obtain ⟨FN,j3⟩:=xE (F+n);obtain ⟨qm,c2⟩:∃qm:Bool,qm=decide ((FN:Int)>lf):=⟨_,rfl⟩
  have R4:=AC (show ∀w':World,((do eqGuard .add 3 (.tmp 23) (.tmp 28) (iV (F:Nat)) (iV (n:Nat));binOp .add 3 (iV (F:Nat)) (iV (n:Nat)):Sem Value)).run prog w'= .ok (iV (FN:Nat)) w' from λw'=>by
   have:=Pk (.tmp 23) (.tmp 28) (F:Nat) (n:Nat) om w'
   rwa [show ((F:Nat):Int)+((n:Nat):Int)=((FN:Nat):Int) by omega] at this)
  have R5:=AC (show ∀w':World,((do eqGuard .gtr 3 (.tmp 29) (.tmp 34) (iV (FN:Nat)) (iV lf);binOp .gtr 3 (iV (FN:Nat)) (iV lf):Sem Value)).run prog w'= .ok (.bool qm) w' from λw'=>by
   rw [c2];clear c2 j3 a4 Z a0 c7 i2 i4 hx H d2 f4 a5 R4 h8 c1
   go_simp)
  have k0:=AC a4;have V:Hid (Bw w W4.drew):=a0.trans ((show Bw W4 W4.drew from (zw _ _).drew).mono a0.size);have X:=AC (xi d2 f4);have m1:=AC (xi j3 c2);clear a4 Z a0 i2 i4 hx H d2 f4 a5 j3 c2 c1 HU f2 g9 j0
  go_upto_region 4 with fail
  rw [<-AB k0,<-c7];clear k0 c7;refine Ak ?_;intro A hA;have e0:A.eval (.tmp 0)= qP kb 0:=eH hA;have e1:A.eval (.tmp 1)= qP gp (i*31):=eH hA;have e6:A.eval (.tmp 6)= qP UB 0:=eH hA;have i3:A.tmps.size=66:=eZ hA;have HA:=AC hA;clear hA;refine xf (S:=λw'=>w'.cell? (xK UB 1)=some (iV (F:Nat))/\w'.cell? (xK gp (i*31+22))=some (.slice xa n xc)/\w'.cell? (xK kb 1)=some (iV lf)) kf h8 (λhS=> ?_);refine tq 0 22 rfl (yF (qP UB 0) (qP UB 1)) hS (tq 1 23 rfl (yl (λw' h=>CG h.1)) hS (tq 2 24 rfl (yM (qP gp (i*31))) hS (tq 3 25 rfl (yN (xK gp (i*31))) hS (tq 4 26 rfl (yF (qP gp (i*31)) (qP gp (i*31+22))) hS (tq 5 27 rfl (yl (λw' h=>KG h.2.1)) hS ?_)))))
  refine tq 6 28 rfl (Do rfl _ _ rfl (.slice xa n xc) sE (iV (n:Nat)) (λw' _=>gS)) hS (tq 7 29 rfl (yB (iV (F:Nat)) (iV (n:Nat)) (iV (FN:Nat)) R4) hS (tq 8 30 rfl (yM (qP kb 0)) hS (tq 9 31 rfl (yN (xK kb 0)) hS (tq 10 32 rfl (yF (qP kb 0) (qP kb 0)) hS (tq 11 33 rfl (yF (qP kb 0) (qP kb 1)) hS ?_)))));refine tq 12 34 rfl (yl (λw' h=>CG h.2.2)) hS (tq 13 35 rfl (yB (iV (FN:Nat)) (iV lf) (.bool qm) R5) hS ?_);refine vg kf ?_ _;rw [AB HA];simp only [Act.put,zl,zh,zi];clear hS HA e0 e1 e6 i3 A R4 R5 h8
  cases qm with
  |true=>
   have E:=AC (show G7 kb base D lp lf L x w (.returned (.tuple #[iV 0,iV 7])) W4.drew from .inr (.inl ⟨by
    obtain ⟨z1,z2,z3,z4⟩:=AB M;have:=tr z4.symm;omega,by
    obtain ⟨z1,z2,z3,z4⟩:=AB M;obtain ⟨y1,y2⟩:=AB m1;have:=tu y2.symm
    omega,rfl,AB V⟩))
   obtain ⟨W5,a9⟩:=xE W4.drew;rw [<-a9] at E ⊢;clear a9 V;go_wp2;rw [AB HQ]
   exact AB E
  |false=>
   obtain ⟨W5,a9⟩:=xE W4.drew;rw [<-a9] at V ⊢;clear a9;have k7:=a8.below V;obtain ⟨hx,H⟩:=AB HX;obtain ⟨XR,d7⟩:=xE (rpc x)
   have j9:=AC (show W5.rangeAt gp (i*31) XR from by
    rw [d7]
    exact λj v hv=>k7.cell hx hv)
   have a7:=AC (show XR.length=31/\∀u∈XR,u.oneCell'=true from by rw [d7];exact ⟨rfl,bi x⟩);have b0:=AC d7;clear k7 hx H d7
   go_upto_region 7 with (first
    |(refine te rfl 78 _ rfl gp (i*31) (by rfl) XR _ (AB j9) underlying78 rfl (by rw [GY,a7.1];rfl) ?_)
    |(refine Bh rfl 78 rfl TB.toArray Oq ?_)
    |(refine Bo rfl 78 _ _ rfl W5.heap.size XR (by rfl) (by rfl) 78 TB (AE.new W5 78 _) (by rw [GY,a7.1];rfl) (by rw [a7.1];rfl) a7.2 ?_;intro w6 H6 G6))
   have k9:Bw W5 w6:=((zw W5.heap.size W5).alloc (zx _) _).trans (Aa G6 (zx _) sI);have d3:Bw w w6:=V.trans (k9.mono V.size);have h6:=AB H6;obtain ⟨CB,f9⟩:=xE W5.heap.size;rw [<-f9] at h6 ⊢;have d6:w.heap.size<=CB:=by rw [f9];exact V.size
   have k5:=a8.below d3;obtain ⟨hx,H⟩:=AB HX;obtain ⟨C,G⟩:∃v,v=x.1.pid:=⟨_,rfl⟩
   have x0:w6.cell? (xK gp (i*31))=some (iV C):=by
    have:=k5.cell (i:=0) (v:= iV C) hx (by rw [G];unfold rpc Au;rfl);rwa [sq] at this
   obtain ⟨g7,U⟩:∃v,v=x.1.par:=⟨_,rfl⟩;have q1:w6.cell? (xK CB 1)=some (iV g7):=h6.cell (by rw [AB b0,U];unfold rpc Au;rfl);have f1:=h6.frozen 1;obtain ⟨W7,d1⟩:=xE (w6.setCell (xK CB 1) (iV C));have h7:AE W7 CB 78 (XR.set 1 (iV C)):=by rw [d1];exact h6.set 1 _
   have b3:Bw w W7:=d3.trans (by rw [d1];exact Aa (AI (zj w6 (some CB)) 1 _) d6 d3.size);have g0:=a8.below b3;have b6:=M.2.2.1;have n4:n<=100000:=AB n2
   obtain ⟨pa,pc,pg,w9,ra,h3,l3,h4⟩:=ja W7 xa x.2.ga xc x.1.PS H om (λh0=>by
    obtain ⟨g1,g2,g3,g4,g5⟩:=g0.pages x (zv hx) h0
    exact ⟨by rw [X.1];exact g1,g4⟩)
   rw [<-b6] at ra h4
   have a5:W7.cell? (xK gp (i*31+22))=some (.slice xa n xc):=by
    rw [X.1,X.2,b6];exact g0.cell hx (by unfold rpc Au;rfl)
   have h9:AE w9 CB 78 (XR.set 1 (iV C)):=h7.below h3 h7.lt;have j2:=b3.trans (h3.mono b3.size);have n3:w9.cell? (xK CB 22)=some (.slice xa n xc):=h9.cell (by rw [AB b0,X.1,X.2,b6];unfold rpc Au;rfl);have n1:=h9.frozen 22;obtain ⟨T,O⟩:=xE (w9.setCell (xK CB 22) (.slice pa n pc));have c8:AE T CB 78 ((XR.set 1 (iV C)).set 22 (.slice pa n pc)):=by rw [O];exact h9.set 22 _
   have J:w9.grownBy T (some CB):=by rw [O];exact AI (zj w9 (some CB)) 22 _
   have a3:Bw w T:=j2.trans (Aa J d6 j2.size);have q0:T.cell? (xK CB 0)=some (iV C):=c8.cell (by rw [AB b0,G];unfold rpc Au;rfl);have f0:=c8.frozen 0
   have hQ:∀j:Nat,((XR.set 1 (iV C)).set 22 (.slice pa n pc)).set 0 (iV (j:Nat))=rpc (fkA x.1 (j:Nat),⟨pa,pg,pc⟩):=λj=>by
    rw [AB b0,G,b6];rfl
   have c4:=AB c6
   have n7:=AC (show 0<n->pa=some (xK pg 0)/\w.heap.size<=pg/\pg<T.heap.size/\pg≠CB/\Bs T pg x.1.PS/\∀i,T.frozen? (xK pg i)=false from λh0=>by
    obtain ⟨g1,g2,g3,g4,g5⟩:=h4 h0;have j6:pg≠CB:=o1 h7.lt;have m2:=J.block pg g3 (sU j6)
    exact ⟨g1,o1 b3.size,o1 J.size,j6,GX g4 m2,λi=>E9 (g5 i) m2⟩)
   have i6:=AC c8;have n0:=AC l3;clear l3;have n6:=AC hQ;have b1:=AC a3;have a1:CB≠kb:=om;have k4:=AC (xi d6 a1);have j8:=AC d1;have a6:=AC O;clear k9 d3 h6 f9 k5 hx H G U d1 h7 b3 g0 b6 n4 h3 h4 h9 j2 O c8 J a3 hQ c4 H6 G6 j9 a7 b0 X V d6 a1
   go_upto_region 8 with fail
   rw [<-AB j8];clear x0 q1 f1 j8
   go_upto_region 10 with (at_builtin;refine Ar rfl _ _ _ (by rfl) _ _ _ _ (by rfl) (by rfl) ra ?_)
   rw [<-AB a6];clear ra a5 n3 n1 a6;go_wp2
   go_loopw [52] (λv wr=>∃j:Nat,1<=j/\j<=N+1/\Hid (AE wr CB 78 (rpc (fkA x.1 (j:Nat),⟨pa,pg,pc⟩)))/\Hid (T.grownBy wr (some CB))/\Hid (∀i:Nat,1<=i->i<j->0<=Fs L i)) (λ_ wr=>N+2-(intOf ((wr.cell? (xK CB 0)).getD undef)).toNat)
   case atStart=>
    refine ⟨1,om,om,AC ?_,AC (AI (zj T (some CB)) 0 _),AC (λi h1 h2=>om)⟩;rw [<-AB n6 1];exact i6.set 0 _
   case round=>
    obtain ⟨j,m5,n8,HJ,HG,HU⟩:=hrel;have a1:=AB k4;have d5:Bw w wr:=b1.trans (Aa HG a1.1 b1.size);have i8:=a8.below d5;have f7:AE wr kb 85 D:=b9.1.below d5 b9.1.lt;have l1:cE wr kb 5 (sL gp 0 L.length cp):=f7.cell b9.2;have m7:=M.1;obtain ⟨jv,d0⟩:∃jv:Int,jv=(j:Nat):=⟨_,rfl⟩;have HC:=AC (Fi kb base gp cp L jv wr l1 i8 om);have k3:wr.cell? (xK CB 0)=some (iV jv):=HJ.cell (by rw [d0];unfold rpc Au fkA;rfl);have o0:=HJ.frozen 0;have m3:=AC (xi d5 (xi i8 f7));obtain ⟨ix,f5⟩:=xE (Fs L jv);rw [<-f5] at HC;have l0:=AC (show ix=Fs L (j:Nat) from by rw [f5,d0]);obtain ⟨J1,l8⟩:=xE (j+1);have n9:jv+1=(J1:Int):=om;have o4:jv<=1001:=om;have o2:1<=jv:=om;have Y:=AC (xi d0 l8);clear a1 d5 i8 f7 l1 m7 f5 d0 l8 q0 f0 m5 n8
    go_wp2_with fail
    refine HC.mono ?_;rintro e w' ⟨rfl,hw⟩;subst hw;by_cases h0:0<=ix
    ·have c9:=AB Y
     have l2:=AC (show ∀i:Nat,1<=i->i<J1->0<=Fs L i from λi h1 h2=>by
      by_cases e:i=j
      ·subst e;rw [<-AB l0];exact h0
      ·exact AB HU i h1 om)
     have m0:=AC (show J1<=N+1 by rw [M.1];exact mB (AB l2));have k1:Hid (AE (w'.setCell (xK CB 0) (iV (J1:Nat))) CB 78 (rpc (fkA x.1 (J1:Nat),⟨pa,pg,pc⟩))):=HJ.set 0 (iV (J1:Nat));clear c9;go_wp2;refine ⟨⟨J1,o1 Y.2,AB m0,k1,AC (AI HG 0 _),l2⟩,?_⟩;have e1:(w'.setCell (xK CB 0) (iV (J1:Nat))).cell? (xK CB 0)=some (iV (J1:Nat)):=k1.cell (by unfold rpc Au fkA;rfl);have c9:=AB Y;have o3:=AB m0;rw [e1,k3];simp only [Option.getD_some,intOf];omega
    ·have I:=AB m3;have c4:=AB c6;have c9:=AB Y;have hB:=I.1.size;obtain ⟨QJ,b7⟩:=xE (rpc (fkA x.1 (j:Nat),⟨pa,pg,pc⟩));have hI:=Zg kb base gp cp D L (fkA x.1 (j:Nat),⟨pa,pg,pc⟩) w' I.2.2 b9.2 I.2.1.own (o1 M.1) c4.2.2.2 om;rw [<-b7] at hI;have HI:=AC hI;have m9:=AC (show AE w' CB 78 QJ from by rw [b7];exact AB HJ);have m4:=AC (show QJ.length=31 from by rw [b7];rfl);clear I c4 c9 hB b7 hI
     go_wp2_with (refine te rfl 78 _ rfl CB 0 (by rfl) QJ _ m9.range underlying78 rfl (by rw [GY,AB m4];rfl) ?_)
     refine HI.mono ?_;rintro e l4 ⟨rfl,g3,c3,l5,l9,m6,R⟩;have o5:l4.cell? (xK CB 0)=some (iV jv):=R.cell k3 (by have:=k4.2;simpa using this)
     have E:=AC (show G7 kb base D lp lf L x w (.returned (.tuple #[iV jv,iV 0])) l4 from by
      obtain ⟨z1,z2,z3,z4⟩:=AB M;obtain ⟨y1,y2⟩:=AB m1;have z5:=tr z4.symm;have y3:=tr y2.symm;have I:=AB m3;have hB:=I.1.size;have k2:=AB HG;refine .inr (.inr ⟨om,om,j,⟨pa,pg,pc⟩,g3,c3,⟨o1 Y.1,by rw [<-AB l0];omega,AB HU⟩,by rw [Y.1],l5,l9,om,AB n0,λh0=> ?_,?_⟩)
      ·obtain ⟨g1,g2,m8,g4,g5,g6⟩:=AB n7 om;have e1:=k2.block pg m8 (sU g4);have s1:=k2.size;have o7:=c6.1;have e2:=R.block pg om sO;have s2:=R.size;exact ⟨g1,g2,by show pg<_;omega,by show pg≠_;omega,GX g5 (e2.trans e1),λi=>E9 (g6 i) (e2.trans e1)⟩
      ·exact ⟨R.os.trans I.1.os,R.tape.trans I.1.tape,R.output.trans I.1.output,o1 R.size,λb hb hn=>by rw [R.block b om hn,I.1.block b hb]⟩)
     clear l5 l9 m6 R;go_wp2;rw [AB HQ];exact AB E
end Go.Proofs.YtpcjkidgohpeoaaGreatDoor
