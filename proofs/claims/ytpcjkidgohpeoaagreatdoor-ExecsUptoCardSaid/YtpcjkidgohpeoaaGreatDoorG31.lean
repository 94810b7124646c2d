import Derived.Test.YtpcjkidgohpeoaaGreatDoorG28
import Derived.Shelf.SlSortCmp.WholeK
set_option maxRecDepth 100000
set_option maxHeartbeats 8000000
set_option linter.all false
namespace Go.Proofs.YtpcjkidgohpeoaaGreatDoor
open RowKit Maps Proofs.Tryz
variable {w:World} {b n B g c j:Nat} {p:PK} {EL:List (Nat×Az)} {IL:List Nat} {x0:Ino} {FZ:List AQ} (kb:Nat)
def Lz {base C:Nat} {e:TypeId} {v:Value} {xs:List Value} (h:w.ownsRow base e C v n xs) (hb:b<=base):w.ownsRow b e C v n xs:=
 ⟨h.1,h.2.imp id (λ⟨g,cap,cur,x1,x2,x3⟩=>⟨g,cap,cur,x1,zg hb x2,x3⟩)⟩
def PX (L:List (AP×RL)) (i:Nat) (x:AP×RL) (st:Int):List (AP×RL):=Ca x.1.pid L.length (L.set i (x.1.ended st,⟨none,x.2.ga,0⟩))
def KH (base kb gp cp:Nat) (k:RK) (L:List (AP×RL)) (i:Nat) (x:AP×RL) (st:Int) (w:World) (e:Ending) (w':World):Prop:=
 e= .returned (.tuple #[])/\(∃v,AE w' kb 85 (k.cells v)/\w'.ownsRow w.heap.size 126 5 v k.inos.length (CQ k.inos))/\w'.ownsRow base 78 31 (sL gp 0 L.length cp) L.length (Ai (PX L i x st))/\Ao w w' kb gp
def jc (base kb g T gp cp:Nat) (k:RK) (L:List (AP×RL)) (i:Nat) (x:AP×RL) (st:Int) (w:World) (hk:EB w base kb g T k) (c8:kb<base) (a6:k.pv= sL gp 0 L.length cp) (b0:k.ov= sN) (b1:k.cv= sN) (hn:k.inos.length<=100000) (hl:∀y∈k.inos,0<y.parent\/y.id=1) (H:∀y∈k.inos,∃a n c,y.bytes= .slice a n c)
  (h:RPs w base gp cp L) (hx:L[i]? =some x) (a8:Fs L x.1.pid=(i:Int)) (a5:gp≠kb) (a4:gp≠g) (hN:L.length<=1000):
  cT 92 #[qP kb 0,iV x.1.pid,iV st] w (KH base kb gp cp k L i x st w):=by
 obtain ⟨V,C⟩:=jb h.own hx st;obtain ⟨N,R⟩:=xE L.length;have c5:w.cell? (xK kb 5)=some (sL gp 0 L.length cp):=by rw [<-a6];exact hk.1.cell rfl
 have U:=AC (Fi kb base gp cp L x.1.pid w c5 h hN);rw [a8] at U;rw [<-R] at c5;have f9:=(zy.1 hx).1;have i0:(0:Int)<=(i:Int):=om;have i1:(i:Int)<(N:Int):=om;have h7:N<=1000:=om;have hc:∀j,j<31->∃v,w.cell? (xK gp (i*31+j))=some v:=λj hj=>⟨_,h.cell hx (zz (by rw [GO];exact hj))⟩;have hf:∀j,w.frozen? (xK gp (i*31+j))=false:=λj=>h.own.frozenAt _;obtain ⟨u2,c2⟩:=hc 2 dz;obtain ⟨u3,c3⟩:=hc 3 dz;obtain ⟨u4,c4⟩:=hc 4 dz;obtain ⟨g6,d4⟩:=hc 22 dz;obtain ⟨g5,g0⟩:=hc 23 dz;obtain ⟨g8,g1⟩:=hc 24 dz;obtain ⟨g2,b9⟩:=hc 25 dz;obtain ⟨h0,f7⟩:=hc 26 dz;obtain ⟨h4,c9⟩:=hc 27 dz;obtain ⟨h6,d5⟩:=hc 28 dz;obtain ⟨g3,b7⟩:=hc 29 dz;obtain ⟨h5,c0⟩:=hc 30 dz;have f2:=hf 2;have f3:=hf 3;have f4:=hf 4;have d9:=hf 22;have d3:=hf 23;have d0:=hf 24;have d8:=hf 25;have f0:=hf 26;have c6:=hf 27;have f5:=hf 28;have d1:=hf 29;have d6:=hf 30
 obtain ⟨W5,Y⟩:=xE (Is w gp (i*31) st);rw [<-Y] at V C;obtain ⟨L5,X⟩:=xE (L.set i (x.1.ended st,⟨none,x.2.ga,0⟩));have J:L5.length=N:=by rw [X,yu,R]
 rw [<-X,<-R] at V;have b3:EB W5 base kb g T k:=⟨hk.1.grown C (sU a5.symm),hk.2.kept C (.inr (by show some g≠some gp;simpa using a4.symm))⟩;have f8:Hid (∀W,EB W base kb g T k->cT 145 #[qP kb 0] W (TA base kb k W)):=λW hW=>dW base kb g T k W hW c8 b0 b1 hn hl H;unfold Is at Y;obtain ⟨b5,d2,b8,b4⟩:=H4 Y V C b3;have a1:=AC (xi X (xi J R));have f6:=AC a6;have a0:=AC (xi a5 a4);obtain ⟨xp,Z⟩:=xE x.1.pid;rw [<-Z] at U ⊢;have d7:=AC Z;obtain ⟨QQ,a7⟩:=xE (KH base kb gp cp k L i x st w);rw [<-a7];have HQ:=AC a7;clear hk a6 b0 b1 hl H h hx a8 a5 a4 hN hc hf Y V C b3 X J R Z a7 f9;go_enter func92,ntmps92
 go_wp2_with fail
 refine U.mono ?_;rintro e w1 ⟨rfl,c7⟩;subst c7
 go_upto_region 7 with fail
 rw [<-AB b5];clear b5 U c5 c2 f2 c3 f3 c4 f4 d4 d9 g0 d3 g1 d0 b9 d8 f7 f0 c9 c6 d5 f5 b7 d1 c0 d6;go_wp2
 go_loopw [8] (λiv wr=>∃j:Nat,j<=N/\iv= iV j/\Hid (wr.ownsRow base 78 31 (sL gp 0 N cp) N (Ai (Ca xp j L5)))/\Hid (W5.grownBy wr (some gp))) (λiv _=>N-(intOf iv).toNat)
 case atStart=>exact ⟨0,om,rfl,AC (by have:=AB d2;simpa [Ca] using this),AC (zj W5 _)⟩
 case round=>
  obtain ⟨j,hj,rfl,E,I⟩:=hrel;have F:EB wr base kb g T k:=⟨b4.1.grown (AB I) (by have:=a0.1;simpa using this.symm),b4.2.kept (AB I) (.inr (by have:=a0.2;show some g≠some gp;simpa using this.symm))⟩
  have c5:wr.cell? (xK kb 5)=some (sL gp 0 N cp):=by
   have:wr.cell? (xK kb 5)=some k.pv:=F.1.cell rfl;rw [AB f6,<-a1.2.2] at this;exact this
  have j0:(0:Int)<=(j:Int):=om;by_cases g7:j<N
  ·have j1:(j:Int)<(N:Int):=om;obtain ⟨y,hy⟩:∃y,L5[j]? =some y:=⟨_,zz (o1 a1.2.1)⟩;have M:=U0 (pid:=xp) hy;have e1:(rpc y)[1]? =some (iV y.1.par):=by unfold rpc Au;rfl
   have c1:wr.cell? (xK gp (j*31+1))=some (iV y.1.par):=by
    rw [E.cellAt _ om];exact G0 _ j 1 y _ M e1
   have f1:wr.frozen? (xK gp (j*31+1))=false:=E.frozenAt _;obtain ⟨yp,O⟩:=xE y.1.par;rw [<-O] at c1;by_cases he:yp=xp
   ·have HN:=AC (show (wr.setCell (xK gp (j*31+1)) (iV 1)).ownsRow base 78 31 (sL gp 0 N cp) N (Ai (Ca xp (j+1) L5))/\W5.grownBy (wr.setCell (xK gp (j*31+1)) (iV 1)) (some gp) from by
     refine ⟨?_,I.trans (AI (zj wr (some gp)) _ _)⟩;have ho:=AB E;rw [GJ] at ho;have:=(Di ho (Uy _) j 1 dz (iV 1)).1;rw [Ly (y:=FH xp y) M (by unfold FH;rw [vu (by rw [<-O];exact he)];rfl),<-GJ,<-LI hy] at this
     exact this)
    subst he;clear hy M e1 O F;go_wp2;exact ⟨⟨j+1,om,sI,AC HN.1,AC HN.2⟩,by simp only [intOf];omega⟩
   ·have HN:=AC (show wr.ownsRow base 78 31 (sL gp 0 N cp) N (Ai (Ca xp (j+1) L5)) from by
     have e2:FH xp y=y:=by unfold FH;rw [vz (by rw [<-O];exact he)]
     obtain ⟨h1,h2⟩:=zy.1 M
     have e3:(Ca xp j L5).set j y=Ca xp j L5:=by
      have h3:(Ca xp j L5).set j (Ca xp j L5)[j]=Ca xp j L5:=List.set_getElem_self h1;rwa [h2] at h3
     rw [LI hy,e2,e3]
     exact AB E)
    clear hy M e1 O F;go_wp2;exact ⟨⟨j+1,om,sI,HN,I⟩,by simp only [intOf];omega⟩
  ·have j1:¬(j:Int)<(N:Int):=om;obtain rfl:j=N:=om;have b6:=AC (AB f8 wr F);clear F
   go_wp2_with fail
   refine b6.mono ?_;rintro e w6 ⟨rfl,v,a9,b2,D⟩
   have a2:=AC (show KH base kb gp cp k L i x st w1 (.returned (.tuple #[])) w6 from by
    have C:=AB b8;have G:=AB I;obtain ⟨z1,z2,z3⟩:=AB a1;have g9:=C.size;have g4:=G.size;have a3:=E.lt gp rfl;refine ⟨rfl,⟨v,a9,Lz b2 om⟩,?_,⟨D.os.trans (G.os.trans C.os),D.tape.trans (G.tape.trans C.tape),D.output.trans (G.output.trans C.output),o1 D.size,λb hb n1 n2=> ?_⟩⟩
    ·unfold PX;rw [<-z1,<-AB d7,<-z3];exact Hh (AB E) (D.block gp a3.2 (by have:=a0.1;simpa using this))
    ·rw [D.block b om (sU n1),G.block b om (sU n2),C.block b hb (sU n2)])
   clear a9 b2 D b6;go_wp2;go_end0;rw [AB HQ];exact AB a2
section
variable (kb pm n:Nat) (PL:List (Int×Nat)) (pid:Int) (w:World) (k9:w.cell? ⟨kb, 9, none⟩ = some (.map (some pm))) (hm:AZ w pm n PL) (hpid:-9223372036854775808 <= pid /\ pid <= 9223372036854775807)
theorem Z8 (k9:cE w kb 9 (.map (some pm))) (hm:AZ w pm n PL) (hpid: -9223372036854775808<=pid/\pid<=9223372036854775807) (hw:Bg PL pid=none):
  cT 138 #[qP kb 0,iV pid] w λe w'=>e= .returned (.tuple #[.pointer none,.iface 40 (iV 18)])/\w'=w:=by
 have C:=hm.look pid hpid;rw [hw] at C;unfold BF at C;clear hm hw;go_enter func138,ntmps138;go_wp2;exact xh (v:= .tuple #[.pointer none,.iface 40 (iV 18)]) (by simp [results,results138,go_sem]) rfl ⟨rfl,rfl⟩
theorem fj (k9:cE w kb 9 (.map (some pm))) (hm:AZ w pm n PL) (hpid: -9223372036854775808<=pid/\pid<=9223372036854775807) {st:Int} (hw:Bg PL pid=some b) (h:cE w b 65811 (iV st)) (D:st≠0):
  cT 138 #[qP kb 0,iV pid] w λe w'=>e= .returned (.tuple #[.pointer none,.iface 40 (iV 24)])/\w'=w:=by
 have C:=hm.look pid hpid;rw [hw] at C;unfold BF at C;clear hm hw;go_enter func138,ntmps138;go_wp2;exact xh (v:= .tuple #[.pointer none,.iface 40 (iV 24)]) (by simp [results,results138,go_sem]) rfl ⟨rfl,rfl⟩
theorem Z9 (k9:cE w kb 9 (.map (some pm))) (hm:AZ w pm n PL) (hpid: -9223372036854775808<=pid/\pid<=9223372036854775807) (hw:Bg PL pid=some b) (h:cE w b 65811 (iV 0)):
  cT 138 #[qP kb 0,iV pid] w λe w'=>e= .returned (.tuple #[qP b 0,.nilIface])/\w'=w:=by
 have C:=hm.look pid hpid;rw [hw] at C;unfold BF at C;clear hm hw;go_enter func138,ntmps138;go_wp2;exact xh (v:= .tuple #[qP b 0,.nilIface]) (by simp [results,results138,go_sem]) rfl ⟨rfl,rfl⟩
end
abbrev Ge (w:World):Prop:=w.cell? (xK 0 0)=some (.iface 204 (.agg #[qP 6 33]))
def IE (q:Nat):Value:= .iface 331 (qP q 0)
def DoP (s:Nat) (P:Int->Int->Value->Int->World->Prop) (a b:Int) (d v:Value) (w':World):Prop:=
 (∃c q a' b' d',c≠0/\a=0/\b=0/\d= sN/\v=IE q/\s<=q/\w'.cell? (xK q 1)=some (iV c)/\P a' b' d' c w')\/(v= .nilIface/\P a b d 0 w')
theorem cA (pid n D:Int) (c1 c2 c3 c4 c5:Value) (w:World) (hn:n≠0) (hg:Ge w) (Y:0<w.heap.size) (L:List Nat) (P:Int->Int->Value->Int->World->Prop) (hP:∀w',Bw w w'->P 0 0 sN n w')
  (hr:∀W,Bw w W->cT 138 #[qP kb 0,iV pid] W λe w'=>e= .returned (.tuple #[.pointer none,.iface 40 (iV n)])/\w'=W):
  cT 86 #[qP kb 0,iV pid,.agg #[iV D,c1,c2,c3,c4,c5]] w λe w'=>∃a b d v,e= .returned (.tuple #[Br a b d,v])/\DoP w.heap.size P a b d v w'/\At L w w':=by
 obtain ⟨F,J,E⟩:=DO w (iV D) c1 c2 c3 c4 c5;obtain ⟨W2,H⟩:=xE ((w.alloc (Obj.cells #[iV D,c1,c2,c3,c4,c5] 51)).alloc (Obj.cells #[iV 0,iV 0,sN] 140));rw [<-H] at F J E;obtain ⟨CB,G⟩:=xE w.heap.size;rw [<-G] at F J;have T:=AC (hr W2 E);have O:=AC (X4 pid n W2 (by unfold cE;unfold Ge at hg;rw [E.cell (p:=(xK 0 0)) Y];exact hg));obtain ⟨HP,V,M,I,a0,HN⟩:=H6 hP H E F G hn;clear F J E H hr hg Y hP hn;go_enter func86,ntmps86
 go_upto_region 1 with fail
 rw [<-AB V,<-G];clear G V
 go_wp2_with fail
 refine T.mono ?_;rintro e w1 ⟨rfl,a2⟩;subst a2;clear T
 go_wp2_with fail
 refine O.mono ?_;rintro e w3 ⟨q,rfl,Z,N,a3⟩;have C:=I.below N I.lt;obtain ⟨r0,r1,r2,rb⟩:=Cm (x:= iV 0) (y:= iV 0) (z:= sN) C (M.trans (N.mono M.size)) (o1 (AB a0));have d0:=C.cell (j:=0) rfl;have d1:=C.cell (j:=1) rfl;have d2:=C.cell (j:=2) rfl;have f0:=C.frozen 0;have f1:=C.frozen 1;have f2:=C.frozen 2;have X:=FG (w:=w3) (b:=CB+1) (iV 0) (iV 0) sN;have a1:=I.lt;have R:=AC (xi (X.cell Z sO) (show w.heap.size<=q from o1 M.size));have U:=AC rb;clear rb C N X a1 Z a3 O;go_wp2;refine xh (v:= .tuple #[Br 0 0 sN,IE q]) (by simp [results,results86,go_sem,Br,IE,r0,r1,r2]) rfl ?_;exact ⟨0,0,sN,IE q,rfl,.inl ⟨n,q,0,0,sN,AB HN,rfl,rfl,rfl,rfl,R.2,R.1,AB HP _ U⟩,At.of_below U⟩
theorem kA (xb:Nat) (pid C:Int) (c1 c2 c3 c4 c5:Value) (w:World) (hg:Ge w) (c6:0<w.heap.size) (L:List Nat) (hL:∀l∈L,l<w.heap.size/\l≠0) (P:Int->Int->Value->Int->World->Prop)
  (c9:∀a b d c w',P a b d c w'->∃sa sn sc,d= .slice sa sn sc) (d5:∀a b d c w' w'',P a b d c w'->Bw w' w''->P a b d c w'') (c8:∀a b d c w' w'' r,P a b d c w'->w'.grownBy w'' (some r)->w.heap.size<=r->r<w.heap.size+2->P a b d c w'')
  (hr:∀W,Bw w W->cT 138 #[qP kb 0,iV pid] W λe w'=>e= .returned (.tuple #[qP xb 0,.nilIface])/\w'=W)
  (hw:∀W,Bw w W->w.heap.size+2<=W.heap.size->cT 140 #[qP kb 0,qP xb 0,.agg #[iV C,c1,c2,c3,c4,c5]] W λe w'=>∃a b d c,e=EJ a b d c/\P a b d c w'/\At L W w'):
  cT 86 #[qP kb 0,iV pid,.agg #[iV C,c1,c2,c3,c4,c5]] w λe w'=>∃a b d v,e= .returned (.tuple #[Br a b d,v])/\DoP w.heap.size P a b d v w'/\At L w w':=by
 obtain ⟨b3,G,M⟩:=DO w (iV C) c1 c2 c3 c4 c5;obtain ⟨W2,a6⟩:=xE ((w.alloc (Obj.cells #[iV C,c1,c2,c3,c4,c5] 51)).alloc (Obj.cells #[iV 0,iV 0,sN] 140));have c0:W2.heap.size=w.heap.size+2:=by rw [a6];simp
 rw [<-a6] at b3 G M;obtain ⟨CB,E⟩:=xE w.heap.size;have d3:=AC (hr W2 M);have d4:=AC (hw W2 M om)
 have d8:∀w3 w4,At L W2 w3->Bw w3 w4->Ge w4:=λw3 w4 ho hb=>by
  unfold Ge at hg ⊢;have h1:W2.cell? (xK 0 0)=_:=(M.cell (p:=(xK 0 0)) c6).trans hg;have h2:=zu _ _ h1
  have h3:w3.cell? (xK 0 0)=W2.cell? (xK 0 0):=by
   unfold World.cell?;rw [ho.block _ h2 (λhm=>(hL _ hm).2 rfl)]
  rw [hb.cell (p:=(xK 0 0)) (yz h2 ho.size),h3];exact h1
 have b5:=AC d8;have c7:∀w3,At L W2 w3->AE w3 (w.heap.size+1) 140 [iV 0,iV 0,sN]:=λw3 ho=>ho.holds b3 (λhm=>o1 (hL _ hm).1);have T:=AC c7;have d6:∀w3 w4 w5,At L W2 w3->Bw w3 w4->w4.grownBy w5 (some (w.heap.size+1))->At L w w5:=λw3 w4 w5 ho hb hg=>(((At.of_below M).trans ho).trans (At.of_below hb)).tail hg om;have N:=AC d6;have HH:=AC (xi c9 (xi d5 c8));have a0:W2.cell? (xK CB 0)=some (iV C):=by rw [E];exact G.cell rfl
 have a1:W2.cell? (xK CB 1)=some c1:=by rw [E];exact G.cell rfl
 have a2:W2.cell? (xK CB 2)=some c2:=by rw [E];exact G.cell rfl
 have a3:W2.cell? (xK CB 3)=some c3:=by rw [E];exact G.cell rfl
 have a4:W2.cell? (xK CB 4)=some c4:=by rw [E];exact G.cell rfl
 have a5:W2.cell? (xK CB 5)=some c5:=by rw [E];exact G.cell rfl
 rw [<-E] at T N;obtain ⟨b9,O,f6⟩:=H3 a6 E c0;clear b3 G M a6 hr hw d8 c7 d6 hg c6 hL c9 d5 c8 c0;go_enter func86,ntmps86
 go_upto_region 1 with fail
 rw [<-AB b9,<-E];clear E b9
 go_wp2_with fail
 refine d3.mono ?_;rintro e w1 ⟨rfl,f3⟩;subst f3;clear d3
 go_wp2_with fail
 refine d4.mono ?_;rintro e w3 ⟨ra,rb,rd,rc,rfl,b6,R⟩;obtain ⟨sa,sn,sc,rfl⟩:=HH.1 _ _ _ _ _ b6;have I:=AE.new w3 140 [iV ra,iV rb,.slice sa sn sc];obtain ⟨NB,a8⟩:=xE w3.heap.size;rw [<-a8] at I;obtain ⟨W4,Y⟩:=xE (w3.alloc (Obj.cells #[iV ra,iV rb,.slice sa sn sc] 140));have V:Bw w3 W4:=by rw [Y];exact (zw w3.heap.size w3).alloc (zx _) _
 have I:AE W4 NB 140 [iV ra,iV rb,.slice sa sn sc]:=by rw [Y];exact I
 have b0:cE W4 NB 0 (iV ra):=I.cell rfl;have b1:cE W4 NB 1 (iV rb):=I.cell rfl;have b2:cE W4 NB 2 (.slice sa sn sc):=I.cell rfl;have D:=(AB T w3 R).below V (AB T w3 R).lt;have Z:=AC (HH.2.1 _ _ _ _ _ _ b6 V);obtain ⟨a9,U,J,X,d7⟩:=H5 R V D Y a8;have b7:=AC (AB b5 w3 W4 R V);clear Y V I b6 R D d4 a0 a1 a2 a3 a4 a5;have b4:=AC (xi b0 (xi b1 b2));clear b0 b1 b2;by_cases hc:rc=0
 ·subst hc;rw [show EJ ra rb (.slice sa sn sc) 0= .returned (.tuple #[.agg #[iV ra,iV rb,.slice sa sn sc],.nilIface]) from rfl];clear a8
  go_upto_region 5 with fail
  rw [<-AB d7,<-AB X];clear X;obtain ⟨b0,b1,b2⟩:=AB b4;have D:=AB J;obtain ⟨r0,r1,r2,_⟩:=Cm (x:= iV ra) (y:= iV rb) (z:= .slice sa sn sc) D (zw 0 W4) (Nat.zero_le _);have H:=FG (w:=W4) (b:=CB+1) (iV ra) (iV rb) (.slice sa sn sc);have HF:=AC (xi (HH.2.2 _ _ _ _ _ _ _ Z H (o1 (AB O)) (o1 (AB O))) (AB N w3 W4 _ a9 U H));have d0:=D.cell (j:=0) rfl;have d1:=D.cell (j:=1) rfl;have d2:=D.cell (j:=2) rfl;have f0:=D.frozen 0;have f1:=D.frozen 1;have f2:=D.frozen 2;clear D H J Z a9 U b7 HH N b5 T b4;go_wp2;refine xh (v:= .tuple #[Br ra rb (.slice sa sn sc),.nilIface]) (by simp [results,results86,go_sem,Br,r0,r1,r2]) rfl ?_;exact ⟨ra,rb,_,.nilIface,rfl,.inr ⟨rfl,HF.1⟩,HF.2⟩
 ·rw [show EJ ra rb (.slice sa sn sc) rc= .returned (.tuple #[.agg #[iV ra,iV rb,.slice sa sn sc],.iface 40 (iV rc)]) from by unfold EJ;rw [vz hc];rfl];clear a8
  go_upto_region 5 with fail
  rw [<-AB d7,<-AB X];clear X;have b8:=AC (X4 pid rc W4 b7)
  go_wp2_with fail
  refine b8.mono ?_;rintro e w6 ⟨q,rfl,d9,a7,f5⟩;have F:=J.below a7 J.lt;have f4:=J.lt;obtain ⟨r0,r1,r2,_⟩:=Cm (x:= iV 0) (y:= iV 0) (z:= sN) F (zw 0 w6) (Nat.zero_le _);have H:=FG (w:=w6) (b:=CB+1) (iV 0) (iV 0) sN;have HF:=AC (xi (HH.2.2 _ _ _ _ _ _ _ (HH.2.1 _ _ _ _ _ _ Z a7) H (o1 (AB O)) (o1 (AB O))) (xi (AB N w3 w6 _ a9 (U.trans (a7.mono U.size)) H) (xi (H.cell d9 sO) (show w.heap.size<=q from o1 (AB O)))));have d0:=F.cell (j:=0) rfl;have d1:=F.cell (j:=1) rfl;have d2:=F.cell (j:=2) rfl;have f0:=F.frozen 0;have f1:=F.frozen 1;have f2:=F.frozen 2;have HC:=AC hc;clear F H J Z a9 U b7 HH N b5 T b4 b8 d9 a7 f5 f4 hc;go_wp2;refine xh (v:= .tuple #[Br 0 0 sN,IE q]) (by simp [results,results86,go_sem,Br,IE,r0,r1,r2]) rfl ?_
  exact ⟨0,0,sN,IE q,rfl,.inl ⟨rc,q,_,_,_,AB HC,rfl,rfl,rfl,rfl,HF.2.2.2,HF.2.2.1,HF.1⟩,HF.2.1⟩
theorem kB:eN 86:=enters_of func86 kf rfl
theorem oM (tk0 kb:Nat) (pid C:Int) (c1 c2 c3 c4 c5:Value) (w:World) (hT:cE w tk0 0 (qP kb 0)) (L:List Nat) (hL:∀l∈L,l<w.heap.size/\l≠tk0) (P:Int->Int->Value->Value->World->Prop) (a3:∀a b d v w',P a b d v w'->d.oneCell'=true) (Z:∀a b d v w' w'' r,P a b d v w'->w'.grownBy w'' (some r)->w.heap.size<=r->r<w.heap.size+2->P a b d v w'')
  (hw:∀W,Bw w W->w.heap.size+2<=W.heap.size->cT 86 #[qP kb 0,iV pid,.agg #[iV C,c1,c2,c3,c4,c5]] W λe w'=>∃a b d v,e= .returned (.tuple #[Br a b d,v])/\P a b d v w'/\At L W w'):
  cT 46 #[qP tk0 0,iV pid,.agg #[iV C,c1,c2,c3,c4,c5]] w λe w'=>∃a b d v,e= .returned (.tuple #[Br a b d,v])/\P a b d v w'/\At L w w':=by
 obtain ⟨H,F,J⟩:=DO w (iV C) c1 c2 c3 c4 c5;obtain ⟨W2,M⟩:=xE ((w.alloc (Obj.cells #[iV C,c1,c2,c3,c4,c5] 51)).alloc (Obj.cells #[iV 0,iV 0,sN] 140));have a7:W2.heap.size=w.heap.size+2:=by rw [M];simp
 rw [<-M] at H F J;have E:Bw w W2.drew:=J.trans ((show Bw W2 W2.drew from (zw _ _).drew).mono J.size);have a1:=AC (hw W2.drew E (by show _<=W2.heap.size;omega));obtain ⟨CB,O⟩:=xE w.heap.size;rw [<-O] at H F;have N:=zu w _ hT;have I:W2.drew.cell? (xK tk0 0)=some (qP kb 0):=by rw [E.cell (p:=(xK tk0 0)) N];exact hT
 have a0:=AC (show W2.drew.cell? (xK tk0 0)=some (qP kb 0)/\Ri CB C c1 c2 c3 c4 c5 W2.drew from ⟨I,F.heap rfl⟩);have X:=AC (show tk0≠CB+1 from by have:tk0<w.heap.size:=N;omega)
 have a6:=AC (show ∀w7,At L W2.drew w7->(w7.cell? (xK tk0 0)=some (qP kb 0)/\Ri CB C c1 c2 c3 c4 c5 w7)/\AE w7 (CB+1) 140 [iV 0,iV 0,sN] from λw7 ho=>
  ⟨⟨by
   unfold World.cell? at I ⊢;rw [ho.block tk0 (yz N E.size) (λhm=>(hL _ hm).2 rfl)]
   exact I,ho.holds (F.heap rfl) (λhm=>o1 (hL _ hm).1)⟩,ho.holds (H.heap rfl) (λhm=>o1 (hL _ hm).1)⟩)
 have G:=AC (show ∀w7 w9 a b d v,At L W2.drew w7->P a b d v w7->w7.grownBy w9 (some (CB+1))->P a b d v w9/\At L w w9 from λw7 w9 a b d v h7 hp hg=>
  ⟨Z a b d v w7 w9 (CB+1) hp hg om om,((At.of_below E).trans h7).tail hg om⟩)
 have a2:=AC a3;have Y:=AC M;clear H F J M a7 hw Z hL hT I E N a3;go_enter func46,ntmps46
 go_upto_region 1 with fail
 rw [<-AB Y,<-O];clear O Y;refine Ak ?_;intro A hA;have e0:A.eval (.tmp 0)= qP tk0 0:=eH hA;have e1:A.eval (.tmp 1)= iV pid:=eH hA;have e5:A.eval (.tmp 5)= qP CB 0:=eH hA;have e6:A.eval (.tmp 6)= qP (CB+1) 0:=eH hA;have a4:A.tmps.size=17:=eZ hA;have HA:=AC hA;clear hA;refine xf (S:=λw'=>w'.cell? (xK tk0 0)=some (qP kb 0)/\Ri CB C c1 c2 c3 c4 c5 w') kf a0 (λhS=> ?_);refine tq 0 8 rfl (yM (qP tk0 0)) hS (tq 1 9 rfl (yN (xK tk0 0)) hS (tq 2 10 rfl (yF (qP tk0 0) (qP tk0 0)) hS (tq 3 11 rfl (yl (λw' h=>RQ h.1)) hS (tq 4 12 rfl (yM (iV pid)) hS ?_))))
 refine tq 5 13 rfl (yieldsIf_load_mid (by simp [Region.wanted]) 51 _ rfl CB 0 sE [iV C,c1,c2,c3,c4,c5] _ (λw' h=>h.2.range) underlying51 rfl X2) hS ?_;refine rdy [6] kf (vq rfl (λK hK=> ?_) vr);refine Bn rfl 86 _ _ rfl #[qP kb 0,iV pid,.agg #[iV C,c1,c2,c3,c4,c5]] sE kB _ (λe w' h=>by obtain ⟨a,b,d,v,h1,_⟩:=h;exact ⟨_,h1⟩) a1 (some 14) rfl ?_;rintro r7 w7 ⟨ra,rb,rd,rv,R,U,T⟩;have R:r7= .tuple #[Br ra rb rd,rv]:=by injection R
 subst R;obtain ⟨D,a5⟩:=AB a6 w7 T;refine hK.out _ _ D (λ_=> ?_);clear hK K;refine tq 7 15 rfl (Be rfl _ _ rfl #[Br ra rb rd,rv] sE (Br ra rb rd) rfl) D ?_;refine tq 8 16 rfl (Be rfl _ _ rfl #[Br ra rb rd,rv] sE rv rfl) D ?_;refine rdy [9] kf (CZ rfl rfl 140 (.tmp 6) (.tmp 15) rfl (CB+1) 0 [iV ra,iV rb,rd] sE (by simp [Ae,AU,a4,Br]) 140 [iV 0,iV 0,sN] a5 Uu (zx 3) (λv hv=>by simp only [vp,uu,or_false] at hv;rcases hv with rfl|rfl|rfl;rfl;rfl;exact AB a2 _ _ _ _ _ U) rfl (λw9 H9 G9=>⟨⟨G9.cell D.1 (sU (AB X)),D.2.grown (AB G9) sI⟩,λV=> ?_⟩) vr);refine tq 10 7 rfl (yA rv) V ?_;refine vg kf ?_ _;rw [AB HA];simp only [Act.put,zl,zh,zi];have h9:AE w9 (CB+1) 140 [iV ra,iV rb,rd]:=AB H9
 have r0:=h9.cell (j:=0) rfl;have r1:=h9.cell (j:=1) rfl;have r2:=h9.cell (j:=2) rfl;have HF:=AC (AB G w7 w9 ra rb rd rv T U G9);clear h9 H9 G9 hS D V a5 U T HA e0 e1 e5 e6 a4 A G a6 a1 a0 a2 X;go_wp2;refine xh (v:= .tuple #[Br ra rb rd,rv]) (by simp [results,results46,go_sem,Br,r0,r1,r2]) rfl ?_;exact ⟨ra,rb,rd,rv,rfl,AB HF⟩
section
variable {oc:Int->Int}
def fw (b:Nat) (s:ByteArray) (w:World) (h:cE w b 3 (.map none)):cT 203 #[qP b 0,.string s] w λe w'=>e= .returned sN/\Bw w w':=by
 have hr:=run_range_nilMap (P:=prog) w 255 9 170 underlying255;have hx:=λty=>run_next_nilMap (P:=prog) w ty 0 0 #[];have HB:Hid (Bw w (w.alloc (.mapIter none 0 #[] 0))):=bA;go_enter func203,ntmps203;go_wp2
 go_loopw [5] (λv wr=>v= sN/\wr=w.alloc (.mapIter none 0 #[] 0)) (λ_ _=>0)
 case atStart=>exact ⟨rfl,rfl⟩
 case round=>
  obtain ⟨rfl,rfl⟩:=hrel;go_wp2;go_ret;exact ⟨rfl,AB HB⟩
def Te (hi:EX p):∀(i:Nat) (x:Ino),p.xs[i]? =some x->(C6 p.xs x.id).size<=15*i:=by
 intro i
 induction i using Nat.strongRecOn with
 |ind i ih=>
  intro x hx;by_cases C:x.parent=0
  ·have:=Nf hi hx C;have h0:(C6 p.xs x.id).size=0:=by rw [<-ByteArray.size_data,<-xl,this];rfl
   omega
  ·obtain ⟨a,xa,ha,E,_,D⟩:=GC hi hx C;have h1:=ih a (D.lt hi) xa ha;have h2:=hi.tree.names x (zv hx);have h3:=D.lt hi;rw [Lm hi hx C,ByteArray.size_append,ByteArray.size_append,<-E];have h4:Fu.size=1:=rfl;omega
def fy:(prog.info? 39).map (λi=>(i.zero,i.size,i.bytes))=some (some (.agg #[.string ByteArray.empty,.bool false,sN]),3,48):=kf
def aN (h:w.ownsRow B 39 3 (sL g 0 n c) n (BX p EL)):∀j u,(BX p EL)[j]? =some u->w.cell? (((xK g 0):Addr).add j)=some u:=λj u hj=>by
 have hl:=(zy.1 hj).1;rw [Ah,zq,h.cellAt j (o1 h.1)];exact hj
def Rn (p:PK) (hi:EX p) (B tb ab am:Nat) (NB MB:List Nat) (V:List Value) (n2:p.xs.length<=100000) (b3:∀c∈p.cs,c.length<=1000000):∀(N i:Nat) (x:Ino) (b:Nat) (w:World),BS w B tb ab am p NB MB V oc->p.xs[i]? =some x->NB[i]? =some b->p.xs.length<=i+N->
  cT 203 #[qP b 0,.string (C6 p.xs x.id)] w (X9 p i w)
 |0,i,x,b,w,hr,hx,hb,hN=>o1 (zy.1 hx).1
 |N+1,i,x,b,w,hr,hx,hb,hN=>by
  have k8:=(zy.1 hx).1;obtain ⟨m,hm⟩:∃m,MB[i]? =some m:=⟨_,zz (by rw [hr.tree.len.2];exact k8)⟩;obtain ⟨qn,v0,mv,hn,hd,_,l9⟩:=hr.tree.node i x b m hx hb hm
  cases hxd:x.dir with
  |false=>
   refine (fw b (C6 p.xs x.id) w (by unfold cE;rw [<-l9.1 hxd];exact hn.cell rfl)).mono ?_;rintro e w' ⟨rfl,o0⟩;refine ⟨_,[],rfl,Ho.empty _ _ _,sI,λj=> ?_,o0⟩;constructor
   ·intro h;simp at h
   ·intro h;obtain ⟨c,hk,_⟩:=h.head
    exact (Wf hi hx hxd hk).elim
  |true=>
  obtain ⟨rfl,D,hD,hf,b4⟩:=hd hxd;have ih:=Rn p hi B tb ab am NB MB V n2 b3 N;clear Rn;have c2:cE w b 3 (.map (some m)):=hn.cell rfl;have p5:m<w.heap.size:=hD.lt;obtain ⟨m7,HR,HD⟩:=H3 ih hr hD;have HF:=AC (xi hf b4);obtain ⟨HI,HX,p1⟩:=H3 hi hx b3;obtain ⟨PA,i6⟩:=xE (C6 p.xs x.id);rw [<-i6];have l0:=AC i6;obtain ⟨ip,l2,d9,b2,a8⟩:=info_parts fy;have X:=AC (xi l2 (xi d9 (xi b2 a8)));have j7:=AC (xi hN k8);clear ih hr hn hd l9 hD hf b4 hx hb hm hxd b3 hi i6 l2 d9 b2 a8 hN k8;go_enter func203,ntmps203
  go_wp2_with (first|(at_range;refine wpList_range_own _ rfl _ 255 rfl 9 170 Jy underlying255 Bp m p.xs.length D rfl HD ?_;intro w0 g6 c6 n4)|go_in)
  have m6:=AC g6;have l8:Bw w w0:=⟨c6.os,c6.tape,c6.output,c6.size,λk hk=>c6.block k hk sI⟩;have m8:=AC (M5.start HI HX HR.tree.len.1 HF.1 l8 om);clear g6 c6 n4 c2 l8
  go_frame
  go_loopw [5] (λv wr=>∃(left:Lit->Bool) (j4:Nat) (EL:List (Nat×Az)) (PR:List Nat),Hid (wr.ranges prog 9 Bp m w.heap.size p.xs.length D left j4)/\Hid (M5 p i D w wr left v EL PR)) (λ_ wr=>wr.rangeLeft m w.heap.size)
  case atStart=>exact ⟨_,_,_,_,m6,m8⟩
  case round=>
   obtain ⟨left,j4,EL,PR,k0,f9⟩:=hrel
   go_wp2_with (first
    |(at_next;refine wpList_next_ranges _ rfl _ rfl 9 Jy Bp Value.string BF oN UW m w.heap.size p.xs.length D left j4 rfl k0 ?_ ?_)
    |go_in)
   ·intro o3 l1;have HP:=AC (f9.fin l1);clear l1 o3;go_wp2;go_ret;exact AB HP
   intro nm c kl y1 y2 w1 n9 a9 d1 hv i0 b0 l5 a6 m1 i2;have o6:=mW a9;subst o6;obtain ⟨s,cb,i1,d6⟩:=HF.2 _ (f9.sub _ d1);obtain rfl:=Qn (show nm.data.toList=s.data.toList by injection i1);have a3:=i0 .nil;rw [HF.1 nm,d6] at a3;obtain rfl:=Qo hv a3.symm;obtain ⟨j,y,L,hy,p0,d3⟩:=ZJ HI HX d6;subst p0;have J:=AB f9;have n1:=J.low;have g5:Bw w w1:=J.below.trans ⟨a6.os,a6.tape,a6.output,a6.size,λk hk=>a6.block k om sO⟩;have c0:=HR.below g5;have i7:=L.bound.2;obtain ⟨mj,h7⟩:∃mj,MB[j]? =some mj:=⟨_,zz (by rw [c0.tree.len.2];exact i7)⟩;obtain ⟨qn,vj,p3,a7,_,i3,_⟩:=c0.tree.node j y cb mj hy d3 h7;obtain ⟨cj,c4⟩:∃cj,p.cs[j]? =some cj:=⟨_,zz (by rw [HI.len];exact i7)⟩;have c7:=c0.cont j vj cj i3 c4;obtain ⟨va,vc,n0⟩:=c7.len;subst n0;have b9:=AB p1 cj (zv c4);have d0:=Ng hy c4
   have c9:=Lm (AB HI) hy (show y.parent≠0 by obtain ⟨_,y',_,h2,_,h4⟩:=L;rw [hy] at h2;obtain rfl:=zr h2;exact h4);have d4:y.parent=x.id:=by obtain ⟨x',y',h1,h2,h3,_⟩:=L;rw [hy] at h2;obtain rfl:=zr h2;rw [AB HX] at h1;obtain rfl:=zr h1;exact h3
   rw [d4,<-AB l0] at c9;obtain ⟨QA,f6⟩:=xE (C6 p.xs y.id);rw [<-f6] at c9 d0;have n5:=AC f6;have k1:PA++⟨#[47]⟩++y.name=QA:=by rw [c9];unfold Fu;rw [ByteArray.append_assoc]
   have a4:∀k,u5.ownBlock=some k->w.heap.size+1<=k/\k<wr.heap.size:=λk hk=>J.rep.row.lt k hk
   have f7:EL.length<=p.xs.length:=by
    have:=Kk (EL.map Prod.fst) (List.range p.xs.length) J.nodup (λk hk=>by
     obtain ⟨c,hc,hd⟩:=(J.mem k).1 hk;rw [zf];rcases hd with rfl|hd
     ·exact (J.done _ hc).1.bound.2
     ·exact hd.bound)
    simpa using this
   have U:Ho p w1 (w.heap.size+1) u5 EL:=by
    refine ⟨J.rep.row.kept a6 ?_,λe he=>(J.rep.each e he).kept a6 ?_,J.rep.apart,J.rep.own,J.rep.nil⟩
    ·by_cases f2:u5.ownBlock=none
     ·exact .inl f2
     ·obtain ⟨k,hk⟩:=qg.1 f2;right;rw [hk];have:=a4 k hk;simp;omega
    ·by_cases f2:(Ek p e).ownBlock=none
     ·exact .inl f2
     ·obtain ⟨k,hk⟩:=qg.1 f2;right;rw [hk];have:=(J.rep.each e he).lt k hk;simp;omega
   obtain ⟨T,g3,o4,p4,n7⟩:=H5 U b0 g5 c0 c7;have F:=AC (xi L (xi hy (xi d1 (xi d3 l5))));have k3:=AC d0;have m2:=AC (show w.heap.size<w1.heap.size/\w1.heap.size=wr.heap.size/\EL.length<=p.xs.length/\cj.length<=1000000 from ⟨om,m1,f7,b9⟩);have d7:=AC (Wg w1.drew (show GQ w1.drew B (.slice va cj.length vc) cj from c7.block λR _ _ _=>rfl) b9);obtain ⟨yd,f4⟩:=xE y.dir;obtain ⟨vn,g1⟩:=xE cj.length;rw [<-f4] at a7;rw [<-g1] at a7;have b3:=a7.lt;have c5:=AC (show cE w1 cb 1 (.bool yd)/\cE w1 cb 2 (.slice va vn vc) from ⟨a7.cell rfl,a7.cell rfl⟩);have k4:=AC (xi f4 g1)
   have R1:=AC (show ∀w':World,(w'.cell? (xK cb 1)=some (.bool yd)/\w'.cell? (xK cb 2)=some (.slice va vn vc))->(Instr.loadAt 4 (qP cb 1)).run prog w'= .ok (.bool yd) w' from λw' h=>by
    have d:=h.1;clear h a9 d1 hv i0 b0 a6 i2 i1 d6 a3 L hy d3 J g5 c0 a7 i3 c4 c7 d0 c9 a4 U f6 k1 f4 g1
    go_simp)
   have R2:=AC (show ∀w':World,(w'.cell? (xK cb 1)=some (.bool yd)/\w'.cell? (xK cb 2)=some (.slice va vn vc))->(Instr.loadAt 36 (qP cb 2)).run prog w'= .ok (.slice va vn vc) w' from λw' h=>by
    have d:=h.2;clear h a9 d1 hv i0 b0 a6 i2 i1 d6 a3 L hy d3 J g5 c0 a7 i3 c4 c7 d0 c9 a4 U f6 k1 f4 g1
    go_simp)
   clear a9 d1 hv i0 b0 l5 a6 i1 d6 a3 L hy d3 J n1 g5 c0 i7 h7 a7 i3 c4 c7 b9 d0 c9 d4 f6 a4 f7 U f4 g1 m1;have b2:¬9223372036854775807<PA.size+1:=by have:=Te (AB HI) i x (AB HX);rw [<-AB l0] at this;have:=j7.2;omega
   have a8:¬9223372036854775807<PA.size+1+y.name.size:=by have:=Te (AB HI) i x (AB HX);rw [<-AB l0] at this;have:=j7.2;have:=HI.tree.names y (zv F.2.1);omega
   unfold BF at i2 ⊢
   go_upto_region 6 with fail
   clear i2;clear k1 b2 a8;refine Ak ?_;intro A hA;have e5:A.eval (.tmp 5)=u5:=eH hA;have e7:A.eval (.tmp 7)= qP cb 0:=eH hA;have e8:A.eval (.tmp 8)= .string QA:=eH hA;have o5:A.tmps.size=43:=eZ hA;have HA:=AC hA;clear hA;refine xf (S:=λw'=>w'.cell? (xK cb 1)=some (.bool yd)/\w'.cell? (xK cb 2)=some (.slice va vn vc)) kf c5 (λhS=> ?_);refine tq 0 23 rfl (yM u5) hS (tq 1 24 rfl (yM (.string QA)) hS (tq 2 25 rfl (yM (qP cb 0)) hS (tq 3 26 rfl (yN (xK cb 0)) hS (tq 4 27 rfl (yF (qP cb 0) (qP cb 1)) hS (tq 5 28 rfl (yl R1) hS ?_)))));refine tq 6 29 rfl (yM (qP cb 0)) hS (tq 7 30 rfl (yN (xK cb 0)) hS (tq 8 31 rfl (yF (qP cb 0) (qP cb 2)) hS ?_))
   refine tq 9 32 rfl (yl R2) hS ?_;have M:=AB d7;rw [<-k4.2] at M;refine rdy [10] kf (vq rfl (λK hK=> ?_) vr);refine KC rfl 197 32 _ rfl (.slice va vn vc) sE YA _ (λe w' h=>by obtain ⟨a,k,h,_⟩:=h;exact ⟨_,h⟩) M (some 33) rfl ?_;rintro r2 w2 ⟨la,lc,g9,f3,a0⟩;rw [k4.2] at f3 g9;have g9:r2= .slice la cj.length lc:=by injection g9
   subst g9;clear M;have a0:Bw w1 w2:=⟨a0.os,a0.tape,a0.output,a0.size,a0.block⟩;have f3:w2.ownsRow w1.heap.size 5 1 (.slice la cj.length lc) cj.length (AF cj):=f3;have j5:w2.cell? (xK cb 1)=some (.bool yd)/\w2.cell? (xK cb 2)=some (.slice va vn vc):=⟨by rw [a0.cell (p:=(xK cb 1)) b3];exact c5.1,by rw [a0.cell (p:=(xK cb 2)) b3];exact c5.2⟩;refine hK.out _ _ j5 (λk6=> ?_);clear hK K;obtain ⟨l,hl⟩:∃l:Az,l=⟨la,0,0,lc⟩:=⟨_,rfl⟩;have f8:Cs p (j,l)=[.string QA,.bool yd,.slice la cj.length lc]:=by unfold Cs Ek;rw [AB k3,hl,k4.1]
   have g0:Ek p (j,l)= .slice la cj.length lc:=by unfold Ek;rw [AB k3,hl]
   obtain ⟨ER,f1⟩:=xE (Cs p (j,l));have a5:ER.length=3:=by rw [f1];rfl
   have d2:∀v∈ER,v.oneCell'=true:=by rw [f1];exact J9 p _
   refine tq 11 34 rfl (EF rfl _ _ rfl #[(0,.string QA),(1,.bool yd),(2,.slice la cj.length lc)] sE (.agg ER.toArray) (λw'=>by rw [f1,f8];exact aM _ _ _ _ _ w')) j5 ?_;refine rdy [12] kf (vq rfl (λK hK=> ?_) vr);refine Hu rfl _ 39 _ rfl ER sE ip _ underlying24 X.1 X.2.1 (by rw [X.2.2.1,a5]) (by rw [a5];decide) (by rw [a5];decide) w2.heap.size rfl (some 35) rfl ?_;obtain ⟨W3,h9⟩:=xE (w2.alloc (.cells ER.toArray 39));rw [<-h9];have j1:Bw w2 W3:=by rw [h9];exact bA
   have m5:AE W3 w2.heap.size 39 ER:=by rw [h9];exact AE.new w2 39 ER
   have l4:=a0.size;have H:Bw w1 W3:=a0.trans (j1.mono l4);have h0:W3.cell? (xK cb 1)=some (.bool yd)/\W3.cell? (xK cb 2)=some (.slice va vn vc):=⟨by rw [H.cell (p:=(xK cb 1)) b3];exact c5.1,by rw [H.cell (p:=(xK cb 2)) b3];exact c5.2⟩;refine hK.out _ _ h0 (λj0=> ?_);clear hK K;have Y:=T.below H;obtain ⟨z1,z2,z3,z4⟩:=AB m2;refine rdy [13] kf (vq rfl (λK hK=> ?_) vr);refine step_append_lies _ rfl _ _ 24 rfl (w.heap.size+1) 39 ip _ 3 48 underlying24 X.1 X.2.1 X.2.2.1 X.2.2.2 rfl dz u5 EL.length (BX p EL) sE Y.row (xK w2.heap.size 0) 1 1 ER sE (by rw [a5]) (Hf (AC m5)) d2 om (by unfold maxLen;omega) om (o1 H.size) W3.heap.size rfl ?_;intro g8 c8 w8 b7 C d8 k9;have a4:∀k,u5.ownBlock=some k->w.heap.size+1<=k/\k<w1.heap.size:=λk hk=>T.row.lt k hk
   have n3:cb<w.heap.size:=by
    have h:=HR.tree;obtain ⟨mj,h7⟩:∃mj,MB[j]? =some mj:=⟨_,zz (by rw [h.len.2];exact F.1.bound.2)⟩;obtain ⟨qn,_,_,a7,_⟩:=h.node j y cb mj F.2.1 F.2.2.2.1 h7;exact a7.lt
   have i4:some cb≠u5.ownBlock:=λe=>o1 (a4 cb e.symm);refine hK.out _ _ ⟨C.cell h0.1 i4,C.cell h0.2 i4⟩ (λm3=> ?_);clear hK K;refine tq 14 5 rfl (yA (sL g8 0 (EL.length+1) c8)) m3 ?_;refine vg kf ?_ _;rw [AB HA];simp only [Act.put,zl,zh,zi];have m4:=Aw f3 (AC j1)
   have b5:Ho p w8 (w.heap.size+1) (sL g8 0 (EL.length+1) c8) (EL++[(j,l)]):=by
    refine Y.app (EL2:=[(j,l)]) (B2:=w1.heap.size) (λe he=> ?_) (List.pairwise_singleton _ _) om (λk hk=>(a4 k hk).2) (λe he k hk=>(T.blk he hk).2) sI ?_ C (by rcases d8 with q|q;exact .inl q;right;omega)
    ·have:e=(j,l):=sU he;subst this;rw [g0,AB k3];exact m4
    ·have:BX p [(j,l)]=ER:=by rw [f1];simp [BX]
     rw [this];exact b7
   have i8:Bw w w8:=o4.trans (H.mono om|>.trans ⟨C.os,C.tape,C.output,C.size,λk hk=>C.block k (o1 H.size) (λe=>o1 (a4 k e.symm))⟩);have f5:=(g3.kept (BE H) sI sI).kept C (λe=>o1 (a4 m e.symm)) (λe=>o1 (a4 w.heap.size e.symm));have n6:w1.heap.size<=w8.heap.size:=o2 H.size C.size;obtain ⟨Z,m0,j6⟩:=H3 b5 i8 f5;have f0:=AC (show w.heap.size<w8.heap.size from om);have h5:=AC (AB m7 j y cb w8 (HR.below i8) F.2.1 F.2.2.2.1 (o2 (F.1.lt HI) j7.1));rw [<-AB n5] at h5;clear hS j5 k6 h0 j0 m3 f3 m4 a0 j1 H m5 h9 l4 f8 g0 f1 a5 d2 Y b7 C d8 k9 a4 i4 b5 i8 f5 n6 HA e5 e7 e8 o5 R1 R2 d7 T n7 c5 n3 b3 z1 z2 z3 z4 hl g3
   go_wp2_with fail
   refine h5.mono ?_;rintro e w9 ⟨v2,EL2,rfl,G,a2,I,d5⟩;have o8:=d5.size;have l7:=AC (m0.trans (d5.mono m0.size));have O:=AC (Z.below d5);have c3:=AC (j6.kept (BE d5) sI sI);have g7:=AC (show w.heap.size<w9.heap.size from o1 (AB f0));have b1:=AB F;have hz:=AB m2;by_cases hE:EL2=[]
   ·subst hE;obtain rfl:=G.nil rfl;have o7:=AC (λty=>run_append_owned_none w9 (w.heap.size+1) 24 ty 39 ip 3 underlying24 X.1 _ _ _ O.row);have k7:=AC (f9.next (AB HI) b1.1 b1.2.1 b1.2.2.1 a2 I (l:=l) (by rw [xr];exact AB O) (AB l7) (AB g7));clear G a2 I d5 o8 b1 hz h5
    go_wp2_with (at_builtin;refine Lib.wpList_append_run _ rfl _ _ _ _ rfl _ _ rfl rfl _ _ (AB o7 _) ?_)
    exact ⟨⟨_,_,_,_,c3,k7⟩,by rw [c3.left_eq,k0.left_eq];exact F.2.2.2.2⟩
   ·have l6:0<EL2.length:=List.length_pos_iff.2 hE;obtain ⟨g2,c2,rfl,o9,i9⟩:=G.row.form l6
    have j3:EL2.length<=p.xs.length:=by
     have:=Kk (EL2.map Prod.fst) (List.range p.xs.length) a2 (λk hk=>by rw [zf];exact ((I k).1 hk).bound);simpa using this
    have h6:=AC (xi (aN G.row) (xi (Gh p EL2) (Um p EL2)));have b6:=AC G;have k2:=AC (xi a2 (xi I hE));obtain ⟨E2,h8⟩:=xE EL2.length;obtain ⟨ES,i5⟩:=xE (BX p EL2);rw [<-h8,<-i5] at h6;rw [<-h8] at l6 j3 ⊢;have k5:=AC (xi h8 i5);have p2:=hz.2.2.1;have p6:=AB g7
    have j2:=AC (show w9.ownsRow (w.heap.size+1) 39 3 (sL g8 0 (EL.length+1) c8) (EL.length+1) (BX p (EL++[(j,l)])) from by
     have:=O.row
     rwa [show (EL++[(j,l)]).length=EL.length+1 by simp] at this)
    clear G a2 I o9 i9 hE h8 i5 h5 b1 hz
    go_wp2_with (at_builtin;refine wpList_append_lies _ (by rfl) _ _ 24 (by rfl) (w.heap.size+1) 39 ip _ 3 48 underlying24 X.1 X.2.1 X.2.2.1 X.2.2.2 rfl dz _ _ _ (by rfl) j2 (xK g2 0) E2 c2 ES (by rfl) h6.2.1 h6.1 h6.2.2 om (by unfold maxLen;omega) om om w9.heap.size (by rfl) ?_;intro n8 m9 j9 c1 E g4 l3)
    have E:w9.grownBy j9 (some g8):=E;have p7:w.heap.size+1<=g8/\g8<w8.heap.size:=Z.row.lt g8 rfl
    have a1:Ho p j9 (w.heap.size+1) (sL n8 0 ((EL++[(j,l)]).length+EL2.length) m9) (EL++[(j,l)]++EL2):=by
     refine O.app (EL2:=EL2) (B2:=w8.heap.size) b6.each b6.apart (o1 (AB f0)) (λk hk=> ?_) (λe he k hk=>(Z.blk he hk).2) k2.2.2 ?_ E (by rcases g4 with q|q;exact .inl q;right;omega)
     ·have:some g8=some k:=hk;have e:g8=k:=sU this;omega
     ·rw [show (EL++[(j,l)]).length=EL.length+1 by simp,<-k5.1,<-k5.2];exact c1
    rw [show (EL++[(j,l)]).length=EL.length+1 by simp,<-k5.1] at a1;have j8:Bw w j9:=l7.trans (Aa E om om);have b1:=AB F;have k7:=AC (f9.next HI b1.1 b1.2.1 b1.2.2.1 k2.1 k2.2.1 (l:=l) a1 j8 (o1 E.size));have b8:=AC (c3.kept E sO sO);exact ⟨⟨_,_,_,_,b8,k7⟩,by rw [b8.left_eq,k0.left_eq];exact F.2.2.2.2⟩
end
def nL {a b:UInt8} (h1:¬a<b) (h2:¬b<a):a=b:=by
 rw [UInt8.lt_iff_toNat_lt] at h1 h2;exact UInt8.toNat_inj.1 om
def YB:∀a b:List UInt8,(Lib.compareBytes a b<0)↔Op.bytesLess a b=true
 |[],[]=>by simp [Lib.compareBytes,Op.bytesLess]
 |[],_::_=>by simp [Lib.compareBytes,Op.bytesLess]
 |_::_,[]=>by simp [Lib.compareBytes,Op.bytesLess]
 |a::x,b::y=>by
  have ih:=YB x y;unfold Lib.compareBytes Op.bytesLess;by_cases h1:a<b
  ·simp [h1]
  ·by_cases h2:b<a
   ·have h3:a≠b:=λe=>by subst e;exact h1 h2
    simp [h1,h2,h3]
   ·obtain rfl:=nL h1 h2;simp [h1,ih]
def KO:∀a:List UInt8,Op.bytesLess a a=false
 |[]=>rfl
 |a::x=>by
  have:=KO x;unfold Op.bytesLess;simp [this]
def JT:∀a b c:List UInt8,Op.bytesLess a b=true->Op.bytesLess b c=true->Op.bytesLess a c=true
 |_,[],_,h,_=>by simp [Op.bytesLess] at h
 |_,_::_,[],_,h=>by simp [Op.bytesLess] at h
 |[],_::_,_::_,_,_=>by simp [Op.bytesLess]
 |a::x,b::y,c::z,h1,h2=>by
  have ih:=JT x y z;unfold Op.bytesLess at h1 h2 ⊢;simp only [Bool.or_eq_true,rh,ug,beq_iff_eq] at h1 h2 ⊢;rcases h1 with h1|⟨rfl,h1⟩
  ·rcases h2 with h2|⟨rfl,h2⟩
   ·left;rw [UInt8.lt_iff_toNat_lt] at*;omega
   ·exact .inl h1
  ·rcases h2 with h2|⟨rfl,h2⟩
   ·exact .inl h2
   ·exact .inr ⟨rfl,ih h1 h2⟩
def L6:∀a b:List UInt8,Op.bytesLess a b=false->Op.bytesLess b a=false->a=b
 |[],[],_,_=>rfl
 |[],_::_,h,_=>by simp [Op.bytesLess] at h
 |_::_,[],_,h=>by simp [Op.bytesLess] at h
 |a::x,b::y,h1,h2=>by
  have ih:=L6 x y;unfold Op.bytesLess at h1 h2;simp only [Bool.or_eq_false_iff,decide_eq_false_iff_not,Bool.and_eq_false_iff,qk] at h1 h2;obtain rfl:=nL h1.1 h2.1;rw [ih (by rcases h1.2 with q|q;exact absurd rfl q;exact q) (by rcases h2.2 with q|q;exact absurd rfl q;exact q)]
def O4 (a b c:List UInt8) (h1:Op.bytesLess a b=false) (h2:Op.bytesLess b c=false):Op.bytesLess a c=false:=by
 cases h:Op.bytesLess a c with
 |false=>rfl
 |true=>
  cases hcb:Op.bytesLess c b with
  |true=>rw [JT a c b h hcb] at h1;cases h1
  |false=>
   obtain rfl:=L6 b c h2 hcb;rw [h1] at h;cases h
def FX (p:PK) (j:Nat):List UInt8:=(CC p j).path.data.toList
def Hn (p:PK) (i j:Nat):Bool:= !Op.bytesLess (FX p j) (FX p i)
def IL0 (p:PK):List Nat:=(List.range' 1 (p.xs.length-1)).mergeSort (Hn p)
def FL0 (p:PK):List AQ:=(IL0 p).map (CC p)
def Ns (hi:EX p) {i:Nat} (h1:i<p.xs.length) (h2:j<p.xs.length) (h:FX p i=FX p j):i=j:=by
 have e:∀k (hk:k<p.xs.length),FX p k=(C6 p.xs (p.xs[k]).id).data.toList:=λk hk=>by
  unfold FX CC;rw [zz hk]
 rw [e i h1,e j h2] at h;exact it hi i j _ _ (zz h1) (zz h2) h
def Ro (p:PK):(IL0 p).Perm (List.range' 1 (p.xs.length-1)):=List.mergeSort_perm _ _
def Rp (p:PK):(IL0 p).Pairwise (λi j=>Hn p i j=true):=by
 refine List.pairwise_mergeSort (λa b c h1 h2=> ?_) (λa b=> ?_) _
 ·unfold Hn at*;simp only [Bool.not_eq_true'] at*;exact O4 _ _ _ h2 h1
 ·unfold Hn
  cases h1:Op.bytesLess (FX p b) (FX p a) with
  |false=>simp
  |true=>
   cases h2:Op.bytesLess (FX p a) (FX p b) with
   |false=>simp
   |true=>
    have:=JT _ _ _ h1 h2;rw [KO] at this;cases this
def JU:j∈IL0 p↔1<=j/\j<p.xs.length:=by
 rw [(Ro p).mem_iff,List.mem_range'_1];omega
def Nt (p:PK):(IL0 p).Nodup:=(Ro p).symm.nodup (List.nodup_range' (h:=by decide))
def aO:(IL0 p).length=p.xs.length-1:=by rw [(Ro p).length_eq,List.length_range']
def kL (hi:EX p) (hn:IL.Nodup) (hm:∀j,j∈IL↔1<=j/\j<p.xs.length) (hs:IL.Pairwise (λi j=>Hn p i j=true)):IL=IL0 p:=by
 refine List.Perm.eq_of_pairwise (le:=λi j=>Hn p i j=true) (λa b ha hb h1 h2=> ?_) hs (Rp p) ((List.perm_ext_iff_of_nodup hn (Nt p)).2 (λj=>by rw [hm,JU]));unfold Hn at h1 h2;simp only [Bool.not_eq_true'] at h1 h2;exact Ns hi ((hm a).1 ha).2 (JU.1 hb).2 (L6 _ _ h2 h1)
def aP (hi:EX p) (h0:p.xs[0]? =some x0) (E:x0.id=1):Ej p.xs p.xs.length=p.xs.length-1:=by
 unfold Ej;rw [uh]
 have C:∀(j:Nat) (y:Ino),p.xs[j]? =some y->0<j->Gg y=true:=by
  intro j y hy hj;unfold Gg
  have:y.parent≠0:=λe=>by
   have h1:=(hi.root1s y (zv hy) e).1;have:=IR hi.incr h0 hy om;omega
  simpa using this
 have D:Gg x0=false:=by
  unfold Gg
  have:x0.parent=0:=by
   have:=hi.down x0 (zv h0);apply tf;intro q;obtain ⟨m,x,hm,hx,_,hk⟩:=GC hi h0 q;have:=hk.lt hi;omega
  simp [this]
 cases hx:p.xs with
 |nil=>rfl
 |cons a r=>
  rw [hx] at h0 C;have e:a=x0:=sU h0;subst e;rw [ua (by rw [D];decide),qu.2 (λy hy=> ?_)]
  ·simp
  ·obtain ⟨j,hj⟩:=yj.1 hy;exact C (j+1) y (sU hj) om
def aQ {m:Nat} (h:IL[m]? =some j):Nd (IL.map (CC p)) (m+1)=(CC p j).path:=by
 show (match (IL.map (CC p))[m]? with|some f=>f.path|none=>ByteArray.empty)=_;rw [ze,h];rfl
def gA (hi:EX p) (h0:p.xs[0]? =some x0) (G:x0.id=1):WU p.xs p.cs (FL0 p):=by
 refine ⟨λi x c hx hc hp=> ?_,?_,λm f hf=> ?_⟩
 ·have E:=(zy.1 hx).1
  have I:1<=i:=by
   apply tf;intro q;have e:i=0:=om;subst e;obtain ⟨m,y,hm,_,_,hk⟩:=GC hi hx hp;have:=hk.lt hi;omega
  obtain ⟨J,hJ⟩:=yj.1 (JU.2 ⟨I,E⟩);refine ⟨J,?_,λj f hf he=> ?_⟩
  ·unfold FL0;rw [ze,hJ];show some (CC p i)=_;rw [Ng hx hc]
  ·unfold FL0 at hf;rw [ze] at hf;obtain ⟨k,hk,rfl⟩:=up.1 hf;have C:=JU.1 (zv hk)
   have e1:FX p k=FX p i:=by
    unfold FX;rw [tw,tw] at he;have:=eq_of_beq he;rw [this,Ng hx hc]
   have e2:=Ns hi C.2 E e1;subst e2;obtain ⟨a1,a2⟩:=zy.1 hk;obtain ⟨b1,b2⟩:=zy.1 hJ;exact (List.getElem_inj (Nt p)).1 (a2.trans b2.symm)
 ·rw [aP hi h0 G];unfold FL0;rw [zc,aO]
 ·unfold FL0 at hf ⊢;rw [ze] at hf;obtain ⟨k,hk,rfl⟩:=up.1 hf;have C:=JU.1 (zv hk);rw [tw,tw]
  cases m with
  |zero=>
   show Op.bytesLess (CC p k).path.data.toList []=false/\((CC p k).path.data.toList==[])=false;refine ⟨by cases (CC p k).path.data.toList<;>rfl,?_⟩;obtain ⟨y,hy⟩:∃y,p.xs[k]? =some y:=⟨_,zz C.2⟩
   have F:y.parent≠0:=λe=>by
    have h1:=(hi.root1s y (zv hy) e).1;have:=IR hi.incr h0 hy om;omega
   have:(CC p k).path=C6 p.xs y.id:=by unfold CC;rw [hy]
   rw [this,Io hi hy F]
   simp
  |succ m=>
   obtain ⟨j,hj⟩:∃j,(IL0 p)[m]? =some j:=⟨_,zz (o1 (zy.1 hk).1)⟩;rw [aQ hj];obtain ⟨a1,a2⟩:=zy.1 hj;obtain ⟨b1,b2⟩:=zy.1 hk;have D:=vd.1 (Rp p) m (m+1) a1 b1 om;rw [a2,b2] at D;unfold Hn at D;simp only [Bool.not_eq_true'] at D;refine ⟨D,?_⟩;rw [qk];intro e;have H:=JU.1 (zv hj);have:=Ns hi C.2 H.2 e;subst this;have:=(List.getElem_inj (Nt p)).1 (a2.trans b2.symm);omega
def cfE (p:PK) (e f:Nat×Az):Int:=Lib.compareBytes (FX p e.1) (FX p f.1)
def ltE (p:PK) (e f:Nat×Az):ltOf (cfE p) e f=Op.bytesLess (FX p e.1) (FX p f.1):=by
 unfold ltOf cfE;rw [show decide (Lib.compareBytes (FX p e.1) (FX p f.1)<0)=decide (Op.bytesLess (FX p e.1) (FX p f.1)=true) from decide_eq_decide.2 (YB _ _)];simp
def pZ (p:PK):Go.Sort.SWO (ltOf (cfE p)) where
 irrefl x:=by rw [ltE];exact KO _
 trans x y z h1 h2:=by rw [ltE] at*;exact JT _ _ _ h1 h2
 ntrans x y z h1 h2:=by rw [ltE] at*;exact O4 _ _ _ h1 h2
def VE (p:PK) (e f:Nat×Az) (W:World):cT 205 #[.agg (Cs p e).toArray,.agg (Cs p f).toArray] W λr w'=>r= .returned (iV (cfE p e f))/\∃q C,w'=Go.Sort.grow (W.drewN q) C:=by
 have H:Hid (∀w,cT 206 #[.string (CC p e.1).path,.string (CC p f.1).path] w λr w'=>r= .returned (iV (cfE p e f))/\w'=w):=λw=>Any.strings_Compare eE _ _ w;generalize cfE p e f=r at H ⊢;unfold Cs Ek;generalize (CC p e.1).path=s1 at H ⊢;generalize (CC p f.1).path=s2 at H ⊢;go_enter func205,ntmps205
 go_wp2_with (go_at_call 206;refine (AB H _).mono ?_;rintro e w' ⟨rfl,rfl⟩)
 go_ret;exact ⟨rfl,0,_,by rw [Go.Sort.alloc_eq_grow,Go.Sort.alloc_eq_grow,Go.Sort.grow_grow];rfl⟩
def M6 (p:PK):∀(EL:List (Nat×Az)) (i j:Nat) (e:Nat×Az),j<3->EL[i]? =some e->(BX p EL)[i*3+j]? =(Cs p e)[j]?
 |[],i,j,s,_,h=>by simp at h
 |x::r,0,j,s,hj,h=>by
  obtain rfl:x=s:=sU h
  rw [BX,vi,Nat.zero_mul,zq,zo (show j<(Cs p x).length from hj)]
 |x::r,i+1,j,s,hj,h=>by
  have ih:=M6 p r i j s hj (sU h);rw [BX,vi,zn (show (Cs p x).length<=(i+1)*3+j from by show 3<=_;omega)];rw [show (i+1)*3+j-(Cs p x).length=i*3+j from by show (i+1)*3+j-3=_;omega];exact ih
section
variable [Inhabited Az]
def aR (p:PK) (EL:List (Nat×Az)):Go.Sort.flatK (Cs p) 3 EL.toArray=(BX p EL).toArray:=by
 apply Go.Sort.ext_get!
 ·simp [Gh]
 ·intro t ht;have C:t<EL.length*3:=sU ht;rw [Go.Sort.get_flatK _ _ _ _ (sU C)];have hi:t/3<EL.length:=om;have h:=M6 p EL (t/3) (t%3) EL[t/3] (Nat.mod_lt _ om) (zz hi);rw [show t/3*3+t%3=t from om] at h;have e:EL.toArray[t/3]! =EL[t/3]:=by simp [getElem!_pos,hi]
  rw [e];simp only [List.getElem!_toArray,List.getElem!_eq_getElem?_getD,h]
def kO (h:w.ownsRow B 39 3 (sL g 0 EL.length c) EL.length (BX p EL)):Go.Sort.HoldsK (Cs p) 3 w g 0 EL.toArray:=by
 unfold Go.Sort.HoldsK;rw [aR];intro j hj;rw [zq];have C:j<(BX p EL).length:=sU hj;have D:j<EL.length*3:=by rw [Gh] at C;exact C
 obtain ⟨v,_,hf⟩:=Fh h j D;refine ⟨?_,hf⟩;rw [h.cellAt j D,zz C];simp [getElem!_pos,C]
def aS {α:Type} (enc:α->List Value) (k:Nat) (w:World) (g n:Nat) (d:Array α) (os:Array Obj) [Inhabited α]:w.grownBy (sortWorldK enc k w g 0 n d os) (some g):=by
 unfold sortWorldK Go.Sort.grow Go.Sort.putRowK Go.Sort.putRow Go.Sort.mapBlock Go.Sort.ahead;refine ⟨rfl,rfl,rfl,sI,λk hk C=> ?_⟩;simp only;rw [Array.getElem?_append_left (sU hk),Array.getElem?_modify,vz (λe=>C (by rw [e]))]
def Sj (p:PK) (B g c:Nat) (EL:List (Nat×Az)) (w:World) (h:w.ownsRow B 39 3 (sL g 0 EL.length c) EL.length (BX p EL)) (hl:EL.length<=100000):
  cT 204 #[sL g 0 EL.length c,.func (.func 205) #[] #[]] w λe w'=>
   e= .returned (.tuple #[])/\∃E:List (Nat×Az),E.Perm EL/\(E.map Prod.fst).Pairwise (λi j=>Hn p i j=true)/\Go.Sort.HoldsK (Cs p) 3 w' g 0 E.toArray/\w.grownBy w' (some g):=by
 have eg:eN 205:=enters_of func205 kf rfl;have F:=(h.lt g rfl).2;have C:=AnyQ.slices_SortFunc TO 3 isAgg39 sizeOf39 (Cs p) (λ_=>rfl) (J9 p) (cfE p) (pZ p) 205 #[] g 0 c EL.toArray w eg (λ_ _ _ _ x y=>VE p x y _) (kO h) F sO;change cT 204 #[sL g 0 EL.length c,.func (.func 205) #[] #[]] w _ at C;refine C.mono ?_;rintro e w' ⟨he,d',n,os,hp,hs,rfl⟩;have D:=hp.1;simp only [List.size_toArray] at D;refine ⟨he,d'.toList,?_,?_,?_,aS _ _ _ _ _ _ _⟩
 ·have:=hp.2.2;simp only [List.size_toArray] at this;rw [show d'.extract 0 EL.length=d' from by rw [<-D];simp] at this;simpa using this
 ·rw [List.pairwise_map,vd];intro i j hi hj G;have:=hs i j (Nat.zero_le _) G (by simp only [List.size_toArray];simpa [D] using hj);rw [ltE] at this;have I:j<d'.size:=sU hj;have H:i<d'.size:=sU hi;rw [getElem!_pos d' j I,getElem!_pos d' i H] at this;unfold Hn;simp only [Array.getElem_toList,this,Bool.not_false]
 ·have:=holdsK_sortWorldK_c (enc:=Cs p) (k:=3) (w:=w) (blk:=g) (off:=0) EL.toArray d' n os (kO h) F (sU D);simpa using this
end
def Fj (Q:Nat) (e:Nat×Az):Az:=⟨e.2.a,(match e.2.a with|some ad=>ad.block|none=>Q),0,e.2.c⟩
def YD (hi:EX p) (h0:p.xs[0]? =some x0) (C:x0.id=1) (j:Nat):DF p.xs 0 j↔1<=j/\j<p.xs.length:=
 ⟨λh=>⟨o1 (h.lt hi),h.bound⟩,λh=>eL hi h0 C j om h.2⟩
section
variable [Inhabited Az]
def aT (hi:EX p) (h0:p.xs[0]? =some x0) (a6:x0.id=1) {w1 w':World} {F:List (Nat×Az)} (G:Ho p w1 w.heap.size (sL g 0 EL.length c) EL) (b0:(EL.map Prod.fst).Nodup) (T:∀j,j∈EL.map Prod.fst↔DF p.xs 0 j) (a1:Bw w w1)
  (C:F.Perm EL) (hs:(F.map Prod.fst).Pairwise (λi j=>Hn p i j=true)) (hH:Go.Sort.HoldsK (Cs p) 3 w' g 0 F.toArray) (hg:w1.grownBy w' (some g)):DW w (FL0 p) (.returned (sL g 0 EL.length c)) w':=by
 have Z:=C.map Prod.fst;have a8:F.map Prod.fst=IL0 p:=kL hi (Z.symm.nodup b0) (λj=>by rw [Z.mem_iff,T j,YD hi h0 a6]) hs;have N:FL0 p=F.map (λe=>CC p e.1):=by unfold FL0;rw [<-a8,rx];rfl
 have O:(FL0 p).length=EL.length:=by rw [N,zc,C.length_eq]
 have b3:=G.row.lt g rfl;have b5:=hg.size;have a4:Bw w w':=a1.trans (Aa hg b3.1 a1.size)
 have I:∀e∈F,w'.ownsRow w.heap.size 5 1 (Ek p e) (CC p e.1).bytes.length (AF (CC p e.1).bytes):=λe he=>by
  have Y:=C.mem_iff.1 he;refine (G.each e Y).kept hg ?_;by_cases hb:Dq e=none
  ·left;rw [IA];exact hb
  ·right;rw [IA];exact λq=>G.own e Y hb q.symm
 have H:∀e∈F,0<(CC p e.1).bytes.length->∃gg,e.2.a=some (xK gg 0)/\w.heap.size<=gg/\gg<w'.heap.size/\gg≠g:=λe he D=>by
  obtain ⟨gg,b4,hv,hb,hl⟩:=(I e he).form D;have ha:e.2.a=some (xK gg 0):=by unfold Ek at hv;injection hv
  refine ⟨gg,ha,hb,hl,λq=> ?_⟩;have M:Dq e=some gg:=by unfold Dq;rw [ha];rfl
  exact G.own e (C.mem_iff.1 he) (by rw [M];simp) (by rw [M,q];rfl)
 have a5:=(List.Perm.pairwise_iff (R:=λe f:Nat×Az=>Dq e≠none->Dq e≠Dq f) (λ{x y} h hn q=>h (by rw [<-q];exact hn) q.symm) C).2 G.apart;refine ⟨some (xK g 0),g,c,F.map (Fj w'.heap.size),by rw [O],λ_=>⟨rfl,om⟩,a4,by rw [N,zc,zc],λi f l _ hf hl=> ?_,λi j f l m hf hl hm a3 D=> ?_⟩
 ·rw [N,ze] at hf;obtain ⟨e,he,rfl⟩:=up.1 hf;rw [ze,he] at hl;obtain rfl:=zr hl;have X:=zv he;obtain ⟨b1,b2⟩:=zy.1 he;have a0:i<F.toArray.size:=sU b1;have hE:(F.toArray)[i]! =e:=by rw [getElem!_pos F.toArray i a0];simpa using b2
  have E:∀k:Nat,k<3->w'.cell? (xK g (i*3+k))=some ((Cs p e)[k]!):=λk hk=>by
   have:=(hH.cell a0 hk).1;rw [zq,hE] at this;exact this
  have L:0<(CC p e.1).bytes.length->(Fj w'.heap.size e).a=some (xK ((Fj w'.heap.size e).q) ((Fj w'.heap.size e).o))/\w.heap.size<=(Fj w'.heap.size e).q/\(Fj w'.heap.size e).q<w'.heap.size/\(Fj w'.heap.size e).q≠g:=λD=>by
   obtain ⟨gg,ha,h1,h2,h3⟩:=H e X D;have hq:(Fj w'.heap.size e).q=gg:=by unfold Fj;rw [ha]
   have a9:(Fj w'.heap.size e).a=some (xK gg 0):=ha;rw [hq,a9];exact ⟨rfl,h1,h2,h3⟩
  have J:0<(CC p e.1).bytes.length->w'.ownsRow w.heap.size 5 1 (sL ((Fj w'.heap.size e).q) 0 (CC p e.1).bytes.length e.2.c) (CC p e.1).bytes.length (AF (CC p e.1).bytes):=λD=>by
   have h1:=I e X;have h2:=(L D).1;unfold Ek at h1;rw [show e.2.a=some (xK ((Fj w'.heap.size e).q) 0) from h2] at h1;exact h1
  refine ⟨by have:=E 0 om;rw [sq] at this;exact this,E 1 om,E 2 om,L,λj hj=> ?_,λk hk=> ?_⟩
  ·have h1:=J om;show w'.cell? (xK ((Fj w'.heap.size e).q) (0+j))=_;rw [zq,h1.cellAt j om];exact AN _ j hj
  ·obtain ⟨v,_,h3⟩:=Fh (J om) k om;show w'.frozen? (xK ((Fj w'.heap.size e).q) (0+k))=false;rw [zq];exact h3
 ·rw [N,ze] at hf;obtain ⟨e,he,rfl⟩:=up.1 hf;rw [ze,he] at hl;obtain rfl:=zr hl;rw [ze] at hm;obtain ⟨d,hd,rfl⟩:=up.1 hm;obtain ⟨gg,ha,h1,h2,h3⟩:=H e (zv he) D;have hq:(Fj w'.heap.size e).q=gg:=by unfold Fj;rw [ha]
  have M:Dq e=some gg:=by unfold Dq;rw [ha];rfl
  rw [hq];intro q
  cases hda:d.2.a with
  |none=>
   have:(Fj w'.heap.size d).q=w'.heap.size:=by unfold Fj;rw [hda]
   omega
  |some ad=>
   have a7:(Fj w'.heap.size d).q=ad.block:=by unfold Fj;rw [hda]
   have a2:Dq d=some ad.block:=by unfold Dq;rw [hda];rfl
   obtain ⟨i1,i2⟩:=zy.1 he;obtain ⟨j1,j2⟩:=zy.1 hd;have U:=vd.1 a5;have V:Dq e=Dq d:=by rw [M,a2,q,a7]
   rcases Nat.lt_or_gt_of_ne a3 with q1|q1
   ·have:=U i j i1 j1 q1;rw [i2,j2] at this;exact this (by rw [M];simp) V
   ·have:=U j i j1 i1 q1;rw [i2,j2] at this;exact this (by rw [a2];simp) V.symm
end
def Nu (c:Int):Ending:= .returned (.tuple #[.pointer none,.iface 40 (iV c)])
def Ha (lp lf lo li lb:Int) (FZ:List AQ) (w:World) (e:Ending) (w':World):Prop:=
 Bw w w'/\((∃c,GR lp lf lo li lb FZ c/\e=Nu c)\/(Fv lp lf lo li lb FZ/\∃kb tb ab am cb pm pb NB MB V,e= .returned (.tuple #[qP kb 0,.nilIface])/\kM w' w.heap.size kb ((CP lp lf lo li lb).puts FZ).2 tb ab am cb pm pb NB MB V))
def Ks (FZ:List AQ) (j:Nat):Nat:=((FZ.take j).map (λf=>f.bytes.length)).sum
structure YE (lp lf lo li lb:Int) (FZ:List AQ) (w:World) (tb ab am j:Nat) (wr:World) (q:PK) (NB MB:List Nat) (V:List Value):Prop where
 puts:(CP lp lf lo li lb).puts (FZ.take j)=(0,q)
 rep:BS wr w.heap.size tb ab am q NB MB V oc0
 below:Bw w wr
 size:Ta lp lf lo li lb j (Ks FZ j) q
 fit:Xs q
def Rq {f:AQ} (h:FZ[j]? =some f):Ks FZ (j+1)=Ks FZ j+f.bytes.length:=by
 unfold Ks;rw [uw,h];simp
def YF (FZ:List AQ) (j:Nat):Ks FZ j<=(FZ.map (λf=>f.bytes.length)).sum:=by
 unfold Ks;have:FZ.map (λf=>f.bytes.length)=(FZ.take j).map (λf=>f.bytes.length)++(FZ.drop j).map (λf=>f.bytes.length):=by rw [<-xj,uq]
 rw [this,List.sum_append];omega
def YE.inv {lp lf lo li lb:Int} {W0:World} {tb ab am:Nat} {wr:World} {q:PK} {NB MB:List Nat} {V:List Value} (h:YE lp lf lo li lb FZ W0 tb ab am j wr q NB MB V):EX q:=by
 have:=V8 lp lf lo li lb (FZ.take j);rw [h.puts] at this;exact this
def gC (lp lf lo li lb mm:Int) (va:Option Addr) (vb g3:Nat) (FZ:List AQ) (LS:List Az) (w:World) (hn:FZ.length<=100) (c7:(FZ.map (λf=>f.bytes.length)).sum<=200000) (k8:∀f∈FZ,f.path.size<=maxLen/\AK f.bytes) (h9:0<FZ.length->va=some (xK vb 0)/\vb<w.heap.size) (hf:Dz w vb 0 FZ LS)
  (ht:w.rangeAt 1 0 DK) (j5:1<w.heap.size) (m1:cE w 3 0 (iV mm)) (k6:3<w.heap.size):
  cT 13 #[.agg #[iV lp,iV lf,iV lo,iV li,iV lb],.slice va FZ.length g3] w (Ha lp lf lo li lb FZ w):=by
 obtain ⟨W0,f4⟩:=xE (w.alloc (Obj.cells #[iV lp,iV lf,iV lo,iV li,iV lb] 23));have k5:Bw w W0:=by rw [f4];exact bA
 have k9:AE W0 w.heap.size 23 [iV lp,iV lf,iV lo,iV li,iV lb]:=by rw [f4];exact AE.new w 23 _
 have j1:=AC (SQ lp lf lo li lb W0)
 have l9:=AC (show ∀w',Bw w w'->∀(i:Nat) (f:AQ) (l:Az),FZ[i]? =some f->LS[i]? =some l->w'.cell? (xK vb (i*3))=some (.string f.path)/\w'.cell? (xK vb (i*3+1))=some (.bool f.dir)/\w'.cell? (xK vb (i*3+2))=some (.slice l.a f.bytes.length l.c)/\(0<f.bytes.length->l.a=some (xK l.q l.o)/\l.q<w.heap.size)/\Am w' l.q l.o f.bytes from λw' h i f l hi b8=>by
  obtain ⟨x0,x1,x2,x3,x4⟩:=hf.at_ i f l hi b8;have h0:0<FZ.length:=o1 (zy.1 hi).1;have j2:=(h9 h0).2;rw [zq] at x0 x1 x2;refine ⟨by rw [h.cell (p:=(xK vb (i*3))) j2];exact x0,by rw [h.cell (p:=(xK vb (i*3+1))) j2];exact x1,by rw [h.cell (p:=(xK vb (i*3+2))) j2];exact x2,x3,λj hj=> ?_⟩;rw [h.cell (p:=(xK l.q (l.o+j))) (x3 om).2]
  exact x4 j hj)
 have o8:Hid (0<FZ.length->va=some (xK vb 0)):=λh=>(h9 h).1;have h5:=AC hf.len;obtain ⟨n7,HT,j9⟩:=H3 k8 ht m1;have d5:=AC (xi j5 (xi k6 c7));obtain ⟨o6,a9,X⟩:=H3 f4 k5 k9;clear k8 h9 hf ht m1 j5 k6 f4 k5 k9 c7;go_enter func13,ntmps13
 go_upto_region 1 with fail
 rw [<-AB o6];have k0:cE W0 w.heap.size 0 (iV lp):=X.cell rfl;have k1:cE W0 w.heap.size 1 (iV lf):=X.cell rfl;have k2:cE W0 w.heap.size 2 (iV lo):=X.cell rfl;have k3:cE W0 w.heap.size 3 (iV li):=X.cell rfl;have k4:cE W0 w.heap.size 4 (iV lb):=X.cell rfl
 go_wp2_with fail
 refine j1.mono ?_;rintro e w1 ⟨(⟨rfl,G⟩|⟨rfl,G⟩),c1⟩
 case inr=>
  have HP:=AC (show Ha lp lf lo li lb FZ w (Nu 6) w1 from ⟨a9.trans (c1.mono a9.size),.inl ⟨6,.inl ⟨G,rfl⟩,rfl⟩⟩);clear G c1 k0 k1 k2 k3 k4 j1;go_wp2
  go_ret2
  exact AB HP
 have g2:=X.below c1 X.lt;have a0:=a9.trans (c1.mono a9.size);have l0:cE w1 w.heap.size 3 (iV li):=g2.cell rfl;have m6:cE w1 w.heap.size 4 (iV lb):=g2.cell rfl;have b0:=AC (dy li lb mm w1 (by unfold cE;rw [a0.cell (p:=(xK 3 0)) d5.2.1];exact AB j9) (o2 d5.2.1 a0.size) ⟨G.2.2.2.2.2.2.1,o1 G.2.2.2.2.2.2.2.1⟩ ⟨G.2.2.2.2.2.2.2.2.1,o1 G.2.2.2.2.2.2.2.2.2⟩);obtain ⟨D,b2,l7⟩:=H3 G c1 a0;clear G g2 c1 a0 k0 k1 k2 k3 k4 j1
 go_wp2_with fail
 refine b0.mono ?_;rintro e w2 ⟨f1,(⟨b8,rfl⟩|⟨b8,tb,ab,am,nb,nm,rfl,j6⟩)⟩
 ·have HP:=AC (show Ha lp lf lo li lb FZ w (Nu 12) w2 from ⟨l7.trans (f1.mono l7.size),.inl ⟨12,.inr ⟨AB D,.inl ⟨o1 D.2.2.2.2.2.2.1,rfl⟩⟩,rfl⟩⟩);clear f1 b8 l0 m6 b0;go_wp2
  go_ret2
  exact AB HP
 have g1:=AC b8;have m9:=AC (show ∃q NB MB V,YE lp lf lo li lb FZ W0 tb ab am 0 w2 q NB MB V from ⟨CP lp lf lo li lb,[nb],[nm],[sN],rfl,fP j6 b2.size,b2.trans (f1.mono b2.size),Zu lp lf lo li lb,⟨by show (1:Int)<=li;omega,by show (0:Int)<=lb;have:=D.2.2.2.2.2.2.2.2.1;omega⟩⟩);clear j6 f1 b8 l0 m6 b0;go_wp2
 go_loopw [32] (λi wr=>∃j:Nat,j<=FZ.length/\i= iV j/\Hid (∃q NB MB V,YE lp lf lo li lb FZ W0 tb ab am j wr q NB MB V)) (λi _=>FZ.length-(intOf i).toNat)
 case atStart=>exact ⟨0,om,rfl,m9⟩
 case round=>
  obtain ⟨j,hj,rfl,HR⟩:=hrel;obtain ⟨q,NB,MB,V,U⟩:=AB HR;have M:=AC U;have I:=U.size;have F:=U.below;have H:=F.size;have J:=a9.size;have Z:=a9.trans (F.mono J);have a8:=Z.size;have j8:=YF FZ j;have b5:=AB d5;have N:=AB D;have i8:0<=q.lb/\q.lb<=1000000:=by rw [I.lims.2.2.2.2];have:=N.2.2.2.2.2.2.2.2;omega
  have c0:AM q.cs<=200000:=o1 I.used;have b9:q.xs.length<=101:=o1 I.len;have j3:(q.xs.length:Int)<=q.li/\q.li<=1000000:=⟨U.fit.1,by rw [I.lims.2.2.2.1];have:=N.2.2.2.2.2.2.2.1;omega⟩;have h4:(AM q.cs:Int)<=q.lb:=U.fit.2;have d7:∀w',Bw w w'->w'.cell? (xK 3 0)=some (iV mm):=λw' h=>by rw [h.cell (p:=(xK 3 0)) b5.2.1];exact AB j9
  by_cases g7:j<FZ.length
  ·obtain ⟨f,b7⟩:∃f,FZ[j]? =some f:=⟨_,zz g7⟩;obtain ⟨l,h2⟩:∃l,LS[j]? =some l:=⟨_,zz (by rw [AB h5];exact g7)⟩;obtain rfl:=AB o8 om;obtain ⟨x0,x1,x2,x3,x4⟩:=AB l9 wr Z j f l b7 h2;have p2:(0:Int)<=(j:Int):=om;have p3:(j:Int)<(FZ.length:Int):=om;have h3:=AB n7 f (zv b7);have n2:=Rq b7;have g9:=YF FZ (j+1);obtain ⟨W3,j0⟩:=xE (wr.alloc (Obj.cells #[.string f.path,.bool f.dir,.slice l.a f.bytes.length l.c] 39));have f2:Bw wr W3:=by rw [j0];exact bA
   have Y:=Z.trans (f2.mono a8);have b3:=F.trans (f2.mono H);have h7:=AC (Ua q W0.heap.size tb ab am l.q l.o l.c l.a NB MB V f mm W3 (U.rep.below f2) U.inv om om i8 j3 h4 h3.1 om (λh=>⟨(x3 h).1,o1 (x3 h).2⟩) (AB l9 W3 Y j f l b7 h2).2.2.2.2 b3.size (d7 W3 Y) om);obtain ⟨n9,n8,g6⟩:=H3 j0 Y b3;have f9:=AC (xi b7 h3);clear I Z a8 F H J j8 b5 N i8 c0 b9 j3 h4 d7 U b7 h2 x3 x4 h3 n2 g9 j0 f2 Y b3
   go_wp2_with fail
   rw [<-AB n9];refine h7.mono ?_;rintro e w4 ⟨g0,(⟨c2,rfl⟩|⟨b4,rfl,o9,n5,V',L⟩)⟩
   ·have HP:=AC (show Ha lp lf lo li lb FZ w (Nu (q.put f).1) w4 from ⟨n8.trans (g0.mono a9.size),.inl ⟨_,.inr ⟨AB D,.inr ⟨o1 (AB g1),.inl (by rw [NX M.puts f9.1 c2];exact ⟨c2,rfl⟩)⟩⟩,rfl⟩⟩);unfold Bz;clear g0 c2 x0 x1 x2 h7;go_wp2
    go_ret2
    exact AB HP
   ·have n0:=AC (show ∃q NB MB V,YE lp lf lo li lb FZ W0 tb ab am (j+1) w4 q NB MB V from ⟨(q.put f).2,o9,n5,V',NW M.puts f9.1 b4,L,g6.trans g0,by rw [Rq f9.1];exact M.size.put f f9.2.2,M.fit.put f b4⟩);clear g0 b4 L x0 x1 x2 h7;go_wp2;exact ⟨⟨j+1,om,sI,n0⟩,by simp only [intOf];omega⟩
  ·have o0:j=FZ.length:=om;subst o0;have a2:=U.puts;rw [uh] at a2;have hq:((CP lp lf lo li lb).puts FZ).2=q:=by rw [a2]
   have m0:((CP lp lf lo li lb).puts FZ).1=0:=by rw [a2]
   obtain ⟨W5,c8⟩:=xE (wr.alloc (Obj.cells #[sN,sN] 101));have m5:Bw wr W5:=by rw [c8];exact bA
   have m2:AE W5 wr.heap.size 101 jn:=by rw [c8];exact AE.new wr 101 _
   have d9:W5.heap.size=wr.heap.size+1:=by rw [c8];simp
   have k7:=AC (Qh 1 0 wr.heap.size W5);obtain ⟨o5,m4,l6⟩:=H3 c8 m5 m2;have HQ:=AC (xi hq m0);have l8:=AC (xi I (xi c0 (xi b9 (xi a8 d9))));have m8:=AC d7;have o7:=AC (xi Z (xi F (xi H J)));clear I Z a8 F H J j8 b5 N i8 c0 b9 j3 h4 d7 U a2 hq m0 c8 m5 m2 d9 g7 hj
   go_upto_region 14 with fail
   rw [<-AB o5]
   go_wp2_with fail
   refine k7.mono ?_;rintro e w6 ⟨rfl,h8,f3⟩;obtain ⟨W7,m3,c4,h6⟩:=mH w6 W5.heap.size;have n1:W5.heap.size<w6.heap.size:=f3.lt;have b1:=m4.trans (h8.mono m4.size);obtain ⟨Z,F,H,J⟩:=AB o7;obtain ⟨I,c0,b9,a8,d9⟩:=AB l8;have c5:=F.trans (b1.mono H);have b6:=X.below c5 X.lt;have k0:cE w6 w.heap.size 0 (iV lp):=b6.cell rfl;have k1:cE w6 w.heap.size 1 (iV lf):=b6.cell rfl;have k2:cE w6 w.heap.size 2 (iV lo):=b6.cell rfl;have k3:cE w6 w.heap.size 3 (iV li):=b6.cell rfl;have k4:cE w6 w.heap.size 4 (iV lb):=b6.cell rfl;have n6:= @run_makeMap prog;have j4:Bw w6 W7:=((zw w6.heap.size w6).alloc (zx _) (.map #[] 0)).trans (Aa h6 (zx _) sI);have o3:w6.heap.size<W7.heap.size:=by have:=h6.size;simp at this;omega
   obtain ⟨pm,g4⟩:=xE w6.heap.size;obtain ⟨pb,d4⟩:=xE W5.heap.size;obtain ⟨cb,d2⟩:=xE wr.heap.size;obtain ⟨W8,f7⟩:=xE (W7.alloc (Obj.cells #[iV lp,iV lf,iV lo,iV li,iV lb,qP tb 0,qP cb 0,iV 0,sN,.map (some pm)] 110));obtain ⟨W9,f6⟩:=xE (W8.alloc (Obj.cells #[.string BI] 9));have g5:Bw W7 W8:=by rw [f7];exact bA
   have f0:Bw W8 W9:=by rw [f6];exact bA
   have f5:AE W8 W7.heap.size 110 (Im lp lf lo li lb tb cb pm):=by rw [f7];exact AE.new W7 110 _
   have h1:AE W9 W8.heap.size 9 [.string BI]:=by rw [f6];exact AE.new W8 9 _
   have a7:Bw W7 W9:=g5.trans (f0.mono g5.size);have a1:Bw w6 W9:=j4.trans (a7.mono j4.size);have E:Bw wr W9:=b1.trans (a1.mono om);have C:Bw w W9:=Z.trans (E.mono a8);have a4:=f5.below f0 f5.lt;have g8:=f3.below a1 f3.lt;have a6:=l6.below (h8.trans (a1.mono om)) l6.lt;have a3:Ei W9 w6.heap.size W5.heap.size:=c4.kept (BE a7) sI;rw [<-g4,<-d4] at a3;rw [<-d4,<-d2] at g8;rw [<-d2] at a6;obtain ⟨kb,d6⟩:=xE W7.heap.size;rw [<-d6] at a4;obtain ⟨l1,l2,l3,l4,l5⟩:=I.lims;have b5:=AB d5;have N:=AB D;have j7:=M.rep.below E
   have i0:=AC (XA q W0.heap.size tb ab am kb pm pb cb W8.heap.size 0 1 (some (xK W8.heap.size 0)) 1 0 mm (FJ cb 3) NB MB V Aj [BI] W9 j7 M.inv I.bytes om om ⟨by rw [l4];exact N.2.2.2.2.2.2.1,by rw [l4];have:=N.2.2.2.2.2.2.2.1;omega⟩ ⟨M.fit.2,by rw [l5];have:=N.2.2.2.2.2.2.2.2.2;omega⟩ (by rw [l2];have:=N.2.2;omega) (by rw [l1,l2,l3,l4,l5];exact a4) a3 g8 (by
     intro v hv;rw [iz] at hv;simp only [vp,uu,or_false] at hv;rcases hv with rfl|rfl|rfl|rfl|rfl|rfl|rfl|rfl<;>rfl) dz (λ_=>rfl) h1.lt (λi hi=>by
     have o4:i=0:=by simp at hi;omega
     subst o4
     exact h1.cell rfl) dz (λj v hj=>by rw [C.cell (p:=(xK 1 (0+j))) b5.1];exact AB HT j v hj) (o1 C.size) (AB m8 W9 C) (o1 C.size))
   have i9:=AC (show wr.heap.size=cb/\cb<pb/\pb<pm/\pm<kb/\kb<W9.heap.size/\w.heap.size<=cb/\w.heap.size<=W0.heap.size from ⟨d2.symm,om,om,om,by rw [d6];have:=f5.lt;have:=f0.size;omega,om,J⟩);have p1:=AC (xi E (xi C (xi a4 (xi a3 a6))));have n4:=AC f7;have a5:=f6;unfold BI at a5;have m7:=AC a5;have n3:=AC m3;have d8:=AC (xi g4 (xi d4 (xi d2 d6)));clear n1 b1 Z F H J I c0 b9 a8 d9 c5 b6 j4 o3 f7 f6 a5 g5 f0 f5 h1 a7 a1 E C a4 g8 a6 a3 l1 l2 l3 l4 l5 b5 N j7 h8 f3 c4 h6 k7 g4 d4 d2 d6;have c3:=AB n3;rw [<-d8.2.1] at c3 ⊢;rw [<-d8.2.2.1];clear m3
   go_upto_region 16 with fail
   rw [<-d8.1];rw [<-AB n4];rw [<-d8.2.2.2];clear c3 n6 k0 k1 k2 k3 k4
   go_wp2_with fail
   rw [<-AB m7];refine i0.mono ?_;intro e d1 hx;obtain ⟨E,C,a4,a3,a6⟩:=AB p1;obtain ⟨i1,i2,i3,i4,i5,i6,i7⟩:=AB i9;rcases hx with ⟨c,hc,rfl,d0⟩|⟨b4,rfl,f8,c9⟩
   ·have HP:=AC (show Ha lp lf lo li lb FZ w (Nu c) d1 from ⟨C.trans (d0.mono C.size),.inl ⟨c,.inr ⟨AB D,.inr ⟨o1 (AB g1),.inr ⟨HQ.2,by rw [HQ.1];exact hc⟩⟩⟩,rfl⟩⟩);unfold Bz;clear hc d0 E C a4 a3 a6 i1 i2 i3 i4 i5 i6 i7 i0;go_wp2
    go_ret2
    exact AB HP
   ·have HP:=AC (show Ha lp lf lo li lb FZ w (.returned (.tuple #[qP kb 0,.nilIface])) d1 from by
     have d3:Below w.heap.size W9 d1:=f8.below (λk hk=>by simp at hk;omega) C.size;have c6:Bw wr d1:=E.trans (f8.below (λk hk=>by simp at hk;omega) E.size);obtain ⟨I,c0,b9,_,_⟩:=AB l8;obtain ⟨l1,l2,l3,l4,l5⟩:=I.lims;have O:∀k,k<W9.heap.size->k≠pb->d1.heap[k]? =W9.heap[k]? :=λk hk c2=>f8.block k hk (sU c2);refine ⟨C.trans d3,.inr ⟨⟨AB D,o1 (AB g1),HQ.2,by rw [HQ.1];exact b4⟩,kb,tb,ab,am,cb,pm,pb,NB,MB,V,rfl,?_⟩⟩;rw [HQ.1];have L:=M.rep.below c6;refine ⟨⟨L.tree.base i7,λi v c hv hc=> ?_,L.own⟩,?_,a3.block (O _ om om),AJ a6 (O _ om om),c9,⟨om,om,om,om⟩,M.inv,⟨om,om,I.bytes⟩,⟨o1 M.rep.tree.amap.lt,λm hm=>o1 (M.rep.tree.low.2.2.2.2 m hm).2,om,om,om⟩,M.inv,I.bytes,⟨om,om⟩,?_,?_,?_,?_⟩
     ·rcases L.cont i v c hv hc with z|⟨R,cp,T,z1,z2,z3,z4,z5⟩
      ·exact .inl z
      ·exact .inr ⟨R,cp,T,z1,z2,z3,z4,om⟩
     ·rw [l1,l2,l3,l4,l5];exact AJ a4 (O _ om om)
     all_goals (have N:=AB D;have p0:=M.fit;unfold F8 at N;unfold Xs at p0;omega))
    clear b4 f8 c9 E C a4 a3 a6 i1 i2 i3 i4 i5 i6 i7 i0;go_wp2
    go_ret2
    exact AB HP
end Go.Proofs.YtpcjkidgohpeoaaGreatDoor
