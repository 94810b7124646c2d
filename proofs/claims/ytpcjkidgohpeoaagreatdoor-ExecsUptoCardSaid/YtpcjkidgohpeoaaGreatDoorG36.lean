import Derived.Test.YtpcjkidgohpeoaaGreatDoorG33
import Derived.Test.YtpcjkidgohpeoaaGreatDoorG34
import Derived.Test.YtpcjkidgohpeoaaGreatDoorCards
import Derived.Test.YtpcjkidgohpeoaaGreatDoorG35
import Derived.JoinedCond
import Derived.Deep.DeepHandedRow
import Derived.Shelf.Vars
set_option maxRecDepth 100000
set_option maxHeartbeats 1000000
set_option linter.all false
namespace Go.Proofs.YtpcjkidgohpeoaaGreatDoor
open RowKit Proofs.Tryz
variable {w w' W W' w0:World} {k ka:Dr} {sa da:Option Addr} {ab ao bb bo kb m sc m' wb mp' mr' i base g s t mp mr cap gp N:Nat} {M T X Tr Mr:List Nat} {P:PK} {ks kP kR:List AP} {pid c mm:Int} {L:List (AP×RL)} {kp:Addr} {typed O B:List Int} {o:POp} {OZ:List POp} {cs:List (List Int)}
structure X5 (w:World) (k:Dr) (sa:Option Addr) (ab ao:Nat) (da:Option Addr) (bb bo:Nat) (M:List Nat):Prop where
 sa:0<k.ss.length->sa=some (xK ab ao)
 abl:ab<w.heap.size
 strs:∀j,j<k.ss.length->w.cell? (xK ab (ao+j))=some (.string (k.ss.getD j ByteArray.empty))
 sn:k.ss.length<=1000
 ssz:k.s.size<=maxLen
 sss:∀x∈k.ss,x.size<=maxLen
 da:0<k.B.length->da=some (xK bb bo)/\bb<w.heap.size/\Am w bb bo k.B
 bn:k.B.length<=1000000
 bm:bb∉M
def X5.below (h:X5 w k sa ab ao da bb bo M) (hb:Bw w w'):X5 w' k sa ab ao da bb bo M:=
 ⟨h.sa,yz h.abl hb.size,λj hj=>by rw [hb.cell (p:=(xK ab (ao+j))) h.abl];exact h.strs j hj,h.sn,h.ssz,h.sss,λh0=>⟨(h.da h0).1,yz (h.da h0).2.1 hb.size,λj hj=>by rw [hb.cell (p:=(xK bb (bo+j))) (h.da h0).2.1];exact (h.da h0).2.2 j hj⟩,h.bn,h.bm⟩
def Gy (w:World) (b:Nat):w.ownsRow b 5 1 sN 0 (AF []):=⟨rfl,.inl ⟨rfl,rfl⟩⟩
def RXD (w:World) (T M:List Nat) (kb:Nat) (P:PK) (ks:List AP) (m:Nat) (w':World) (r:Value):Prop:=∃M',RX w' T M' kb P ks m/\(∀b∈M',b∈M\/w.heap.size<=b)/\At M w w'/\∀b,r.ownBlock=some b->b∉M'
def Ez.nil (h:Ez w T M kb P ks m w'):RXD w T M kb P ks m w' sN:=by
 obtain ⟨M',h1,h2,h3⟩:=h;exact ⟨M',h1,h2,h3,λb e=>by cases e⟩
def cB (w:World) (T M:List Nat) (kb:Nat) (P:PK) (ks:List AP) (m:Nat) (pid:Int) (ka:Dr) (e:Ending) (w':World):Prop:=
 ∃o r,DoR P ks pid ka o/\e= .returned (.tuple #[iV o.n,iV o.m,r,iV o.c])/\w'.ownsRow w.heap.size 5 1 r o.out.length (AF o.out)/\RXD w T M kb P o.ks m w' r
def kD (W:World) (T M:List Nat) (kb:Nat) (P:PK) (m:Nat) (R:DoO->Prop) (e:Ending) (w':World):Prop:=∃o,R o/\o.out=[]/\o.m=0/\e= .returned (.tuple #[iV o.n,iV o.c])/\Ez W T M kb P o.ks m w'
def Pq {R:DoO->Prop} (hR:∀o,R o->DoR P ks pid ka o) (hb:Bw w W) {e:Ending} (h:Two (kD W T M kb P m R) e w'):cB w T M kb P ks m pid ka e w':=by
 obtain ⟨v,c,rfl,o,h1,h2,h3,h4,h5⟩:=h;have e1:v=o.n/\c=o.c:=sU h4;obtain ⟨rfl,rfl⟩:=e1;refine ⟨o,sN,hR o h1,by rw [h3],?_,(h5.after hb).nil⟩;rw [h2];exact Gy _ _
def kE (h:Fs L pid<0):∀y∈EZ L,y.pid≠pid:=λy hy e=>by
 obtain ⟨x,hx,rfl⟩:=yt.1 hy;unfold Fs at h
 cases hq:L.findIdx? (λx=>x.1.pid==pid) with
 |some i=>rw [hq] at h;simp at h;omega
 |none=>
  have:=sh.1 hq x hx;simp [e] at this
def pG (h:RX w T M kb P ks m) (hK:KOk P ks) (hP:jo P) {dc:Nat} (hA:X5 w ka sa ab ao da bb bo M) (hk:GM ka.kind):
  cT 49 #[qP kb 0,iV pid,.agg (Gd ka.kind ka.a ka.b ka.s sa ka.ss.length sc da ka.B.length dc)] w (cB w T M kb P ks m pid ka):=by
 have hR:=h;obtain ⟨base,g,cap,gp,cp,k,cs,L,ty,h⟩:=h;have hf:=h.facts hK hP;have h5:w.cell? (xK kb 5)=some (sL gp 0 L.length cp):=by have:=h.ker.1.cell (j:=5) rfl;rwa [h.pv] at this
 have E:=h.ker.1.lt;by_cases H:Fs L pid<0
 ·refine (jk kb base gp cp L pid ka.kind ka.a ka.b ka.s sa ka.ss.length sc da ka.B.length dc w h5 h.ps hf.n.1 E H).mono ?_;rintro e w' ⟨rfl,hb⟩;exact ⟨D6 ks 18,sN,.inl ⟨by rw [<-h.kse];exact kE H,rfl⟩,rfl,Gy _ _,(hR.done hb).nil⟩
 obtain ⟨i,hi⟩:∃i:Nat,Fs L pid=(i:Int):=⟨(Fs L pid).toNat,om⟩;obtain ⟨x,hx,J⟩:=mF hi;have a3:=zv hx;have Z:=Np h a3;have G:=hK.each _ Z;by_cases D:x.1.st=0
 rotate_left
 ·refine (fK kb base gp cp L pid i x ka.kind ka.a ka.b ka.s sa ka.ss.length sc da ka.B.length dc w h5 h.ps hf.n.1 E hi hx D).mono ?_;rintro e w' ⟨rfl,hb⟩;exact ⟨D6 ks 24,sN,.inr ⟨x.1,Z,J,.inl ⟨D,rfl⟩⟩,rfl,Gy _ _,(hR.done hb).nil⟩
 have F:∀o,Ot P ks x.1 ka o->DoR P ks pid ka o:=λo ho=> .inr ⟨x.1,Z,J,.inr ⟨D,ho⟩⟩;have C:Bw w (GL w ka.kind ka.a ka.b ka.s sa ka.ss.length sc da ka.B.length dc):=bA;have hW:=h.below C;have U:=hA.below C;have I:=hW.bs;have V:k.inos.length<=100000:=o1 hf.inos.1;have a0:(cs.map List.length).sum<=10000000:=o1 hf.sum;have R:x.1.PS.length<=900:=o1 (Ms G.pages);have a4:∀p∈x.1.PS,p.bytes.length=256:=λp hp=>(G.pages.each p hp).2.2.2.2;rcases hk with q|q|q|q|q|q|q|q
 ·refine (Po kb base gp cp L pid i x ka.kind ka.a ka.b ka.s sa ka.ss.length sc da ka.B.length dc w h5 h.ps hf.n.1 E hi hx D (kD (GL w ka.kind ka.a ka.b ka.s sa ka.ss.length sc da ka.B.length dc) T M kb P m (Xf P ks x.1)) (λe w' hq=>by obtain ⟨o,_,_,_,h4,_⟩:=hq;exact ⟨_,_,h4⟩) (.inl ⟨q,(fC base kb g cap gp cp k _ none 0 0 L i x _ hW.ker hW.pv hW.nils.1 hf.lens V a0 hf.fr hW.ps hx a4 om hW.ne.1 hf.n.1 I).mono (λe w' hp=>mQ hW hf hK hx D hp)⟩)).mono (λe w' hp=>Pq (λo ho=>F o (.inl ⟨q,ho⟩)) C hp)
 ·refine (Po kb base gp cp L pid i x ka.kind ka.a ka.b ka.s sa ka.ss.length sc da ka.B.length dc w h5 h.ps hf.n.1 E hi hx D (kD (GL w ka.kind ka.a ka.b ka.s sa ka.ss.length sc da ka.B.length dc) T M kb P m (Xg P ks x.1 ka.s ka.ss)) (λe w' hq=>by obtain ⟨o,_,_,_,h4,_⟩:=hq;exact ⟨_,_,h4⟩) (.inr (.inl ⟨q,(OG base kb g cap gp L.length cp i k cs (DP L) (Ai L) 0 0 none ka.s sa ab ao sc ka.ss _ hW.ker hW.cont hf.inv hf.bytes hW.pv hW.ps.own (Mv L) (zy.1 hx).1 hW.nils.1 hW.kbl I (o1 hf.inos.1) hA.ssz (o1 hf.sum) hf.n.1 hf.fr hA.sn hA.sa U.abl U.strs hA.sss).mono (λe w' hp=>mR hW hf hx hp)⟩))).mono (λe w' hp=>Pq (λo ho=>F o (.inr (.inl ⟨q,ho⟩))) C hp)
 ·subst J;refine (jm kb base gp cp L x.1.pid i x ka.kind ka.a ka.b ka.s sa ka.ss.length sc da ka.B.length dc w h5 h.ps hf.n.1 E hi hx D (KH base kb gp cp k L i x (ka.a%256) (GL w ka.kind ka.a ka.b ka.s sa ka.ss.length sc da ka.B.length dc)) (λe w' hq=>hq.1) q (λ_=>jc base kb g cap gp cp k L i x (ka.a%256) _ hW.ker hW.kbl hW.pv hW.nils.1 hW.nils.2.1 V hf.link hf.sl hW.ps hx hi hW.ne.1 hW.ne.2.1 hf.n.1)).mono ?_;rintro e w' (⟨h1,rfl,hb⟩|⟨h1,rfl,hq⟩)
  ·exact ⟨D6 ks 18,sN,F _ (.inr (.inr (.inl ⟨q,.inl ⟨h1,rfl⟩⟩))),rfl,Gy _ _,(hR.done hb).nil⟩
  ·exact ⟨⟨0,0,[],0,Nm ks x.1.pid (ka.a%256)⟩,sN,F _ (.inr (.inr (.inl ⟨q,.inr ⟨h1,rfl⟩⟩))),rfl,Gy _ _,((oJ hW hf hx G.par.2.2.1 hq).after C).nil⟩
 ·refine (Xo kb base gp cp L pid i x ka.kind ka.a ka.b ka.s sa ka.ss.length sc da ka.B.length dc w h5 h.ps hf.n.1 E hi hx D (λe w'=>∃o,bj ks x.1 o/\o.out=[]/\e= .returned (.tuple #[iV o.n,iV o.m,sN,iV o.c])/\Ez (GL w ka.kind ka.a ka.b ka.s sa ka.ss.length sc da ka.B.length dc) T M kb P o.ks m w') (λe w' hq=>by obtain ⟨o,_,_,h4,_⟩:=hq;exact ⟨_,_,_,_,h4⟩) (.inl ⟨q,(fB kb base gp cp _ L pid _ hW.ker.1 (by show some k.pv=_;rw [hW.pv]) hW.ps.own hf.n.1 (λe=>hW.ne.1 e.symm) I).mono (λe w' hp=>mP hW hf hK J hp)⟩)).mono ?_;rintro e w' ⟨o,h1,h2,rfl,h4⟩;exact ⟨o,sN,F _ (.inr (.inr (.inr (.inl ⟨q,h1⟩)))),rfl,by rw [h2];exact Gy _ _,(h4.after C).nil⟩
 ·refine (Po kb base gp cp L pid i x ka.kind ka.a ka.b ka.s sa ka.ss.length sc da ka.B.length dc w h5 h.ps hf.n.1 E hi hx D (kD (GL w ka.kind ka.a ka.b ka.s sa ka.ss.length sc da ka.B.length dc) T M kb P m (oD P ks x.1 ka.a)) (λe w' hq=>by obtain ⟨o,_,_,_,h4,_⟩:=hq;exact ⟨_,_,h4⟩) (.inr (.inr (.inl ⟨q,(jh base kb g cap gp cp k _ none 0 0 L i x ka.a _ hW.ker hW.pv hW.nils.1 hf.lens V a0 hf.fr hW.ps hx G.pages R hW.ne.1 hf.n.1 I).mono (λe w' hp=>oL hW hf hx hp)⟩)))).mono (λe w' hp=>Pq (λo ho=>F o (.inr (.inr (.inr (.inr (.inl ⟨q,ho⟩)))))) C hp)
 ·refine (Xo kb base gp cp L pid i x ka.kind ka.a ka.b ka.s sa ka.ss.length sc da ka.B.length dc w h5 h.ps hf.n.1 E hi hx D (GK x.1.PS ka.a ka.b (GL w ka.kind ka.a ka.b ka.s sa ka.ss.length sc da ka.B.length dc)) (λe w' hq=>by rcases hq with ⟨_,h4,_⟩|⟨_,_,h4,_⟩|⟨_,_,v,h4,_⟩<;>exact ⟨_,_,_,_,h4⟩) (.inr ⟨q,Zp kb base gp cp L i x _ ka.a ka.b _ _ _ _ hW.ps hx G.pages G.bytes R⟩)).mono ?_;have Y:∀o,nK ks x.1 ka.a ka.b o->DoR P ks pid ka o:=λo ho=>F o (.inr (.inr (.inr (.inr (.inr (.inl ⟨q,ho⟩))))));rintro e w' (⟨a1,rfl,hb⟩|⟨a1,a2,rfl,hb⟩|⟨a1,a2,v,rfl,hv,hb⟩)
  ·exact ⟨D6 ks 6,_,Y _ (.inl ⟨a1,rfl⟩),rfl,Gy _ _,((RX.done ⟨base,g,cap,gp,cp,k,cs,L,ty,hW⟩ hb).after C).nil⟩
  ·exact ⟨D6 ks 7,_,Y _ (.inr (.inl ⟨a1,a2,rfl⟩)),rfl,Gy _ _,((RX.done ⟨base,g,cap,gp,cp,k,cs,L,ty,hW⟩ hb).after C).nil⟩
  ·refine ⟨⟨ka.b,0,BG x.1.PS (IntKind.u64.wrap ka.a) ka.b.toNat,0,ks⟩,v,Y _ (.inr (.inr ⟨a1,a2,rfl⟩)),rfl,?_,M,⟨base,g,cap,gp,cp,k,cs,L,ty,hW.below hb⟩,λb hb=> .inl hb,(At.of_below C).trans (At.of_below hb),λb e hm=>o2 (hv.lt b e) (hW.ml b hm)⟩;show w'.ownsRow w.heap.size _ 1 v (BG x.1.PS (IntKind.u64.wrap ka.a) ka.b.toNat).length _;rw [K7];exact Lz hv C.size
 ·refine (Po kb base gp cp L pid i x ka.kind ka.a ka.b ka.s sa ka.ss.length sc da ka.B.length dc w h5 h.ps hf.n.1 E hi hx D (kD (GL w ka.kind ka.a ka.b ka.s sa ka.ss.length sc da ka.B.length dc) T M kb P m (jY ks x.1 ka.a ka.B)) (λe w' hq=>by obtain ⟨o,_,_,_,h4,_⟩:=hq;exact ⟨_,_,h4⟩) (.inr (.inr (.inr ⟨q,(Zq kb base gp cp L i x _ ka.a _ _ _ da bb bo dc ka.B _ hW.ps hx G.pages R hA.bn U.da (λ_ h0 e=>hA.bm (by rw [e];exact h.mM.2.2.2.2 x a3 h0))).mono (λe w' hp=>mS hW hf hK hx D hp)⟩)))).mono (λe w' hp=>Pq (λo ho=>F o (.inr (.inr (.inr (.inr (.inr (.inr (.inl ⟨q,ho⟩)))))))) C hp)
 ·refine (mG kb base gp cp L pid i x ka.kind ka.a ka.b ka.s sa ka.ss.length sc da ka.B.length dc w h5 h.ps hf.n.1 E hi hx D q).mono ?_;rintro e w' ⟨rfl,hb⟩;exact ⟨D6 ks 23,sN,F _ (.inr (.inr (.inr (.inr (.inr (.inr (.inr ⟨q,rfl⟩))))))),rfl,Gy _ _,(hR.done hb).nil⟩
def KX.lt (h:KX w T M kp P ks typed m):(∀b∈T,b<w.heap.size)/\(∀b∈M,b<w.heap.size)/\∀b∈T,b∉M:=by
 obtain ⟨_,_,_,_,_,_,_,_,_,_,_,_,_,_,_,_,_,_,_,h⟩:=h;exact ⟨h.tl,h.ml,h.apart⟩
def KX.more (h:KX w T M kp P ks typed m) (hm:m<=m'):KX w T M kp P ks typed m':=by
 obtain ⟨tk0,kb,tb,ab,am,cb,pm,n,B,NB,MB,V,mm,C,vt,vw,PL,D,e,h⟩:=h;exact ⟨tk0,kb,tb,ab,am,cb,pm,n,B,NB,MB,V,mm,C,vt,vw,PL,D,e,{h with nm:=zg h.nm hm}⟩
def KX.pk (h:KX w T M kp P ks typed m):jo P:=by
 obtain ⟨_,_,_,_,_,_,_,_,_,_,_,_,_,_,_,_,_,_,_,h⟩:=h;exact h.pk
def KX.err (h:KX w T M kp P ks typed m):Ge w/\0∈T:=by
 obtain ⟨_,_,_,_,_,_,_,_,_,_,_,_,_,_,_,_,_,_,_,h⟩:=h;exact ⟨h.err,h.tT.2.1⟩
def RX.lt (h:RX w T M kb P ks m):(∀b∈T,b<w.heap.size)/\(∀b∈M,b<w.heap.size)/\kb∈M:=by
 obtain ⟨_,_,_,_,_,_,_,_,_,h⟩:=h;exact ⟨h.tl,h.ml,h.mM.1⟩
def RX.more (h:RX w T M kb P ks m) (hm:m<=m'):RX w T M kb P ks m':=by
 obtain ⟨base,g,cap,gp,cp,k,cs,L,ty,h⟩:=h;exact ⟨base,g,cap,gp,cp,k,cs,L,ty,{h with tyl:=zg h.tyl hm}⟩
structure Duo (w0:World) (N wb:Nat) (kp:Addr) (kb:Nat) (T M Tr Mr X:List Nat) (P:PK) (kP kR:List AP) (typed:List Int) (mp mr:Nat) (W:World):Prop where
 prog:KX W T M kp P kP typed mp
 ref:RX W Tr Mr kb P kR mr
 low:Below N w0 W
 xs:wb∈X/\∀b∈X,b<W.heap.size/\b∉M/\b∉Mr
 mN:(∀b∈M,N<=b)/\∀b∈Mr,N<=b
 mm:(∀b∈M,b∉Mr/\b∉Tr)/\∀b∈Mr,b∉T
 lst:P.last<=1000000
 wT:wb∉T/\wb∉Tr/\N<=wb
def Iu (W:World) (wb:Nat) (kp:Addr) (kb:Nat) (X:List Nat) (O:List Int):Prop:=∃dn rn dk rk qa qo ra ro,AE W wb 47 [.pointer (some kp),qP kb 0,.slice dn O.length dk,.slice rn O.length rk,.bool false]/\O.length<=1000000/\(0<O.length->dn=some (xK qa qo)/\qa∈X)/\(0<O.length->rn=some (xK ra ro)/\ra∈X)/\Am W qa qo O/\Am W ra ro O
def Fk {q o:Nat} (h:Am w q o O) (hb:0<O.length->w'.heap[q]? =w.heap[q]?):Am w' q o O:=λi hi=>by
 have:=h i hi;unfold World.cell? at this ⊢;rw [hb om];exact this
def Iu.block (h:Iu W wb kp kb X O) (hX:wb∈X) (hb:∀b∈X,W'.heap[b]? =W.heap[b]?):Iu W' wb kp kb X O:=by
 obtain ⟨dn,rn,dk,rk,qa,qo,ra,ro,h1,h2,h3,h4,h5,h6⟩:=h;exact ⟨dn,rn,dk,rk,qa,qo,ra,ro,AJ h1 (hb _ hX),h2,h3,h4,Fk h5 (λh0=>hb _ (h3 h0).2),Fk h6 (λh0=>hb _ (h4 h0).2)⟩
def Iu.row (h:Iu W wb kp kb X O):cI W wb kb kp O:=by
 obtain ⟨dn,rn,dk,rk,qa,qo,ra,ro,h1,h2,h3,h4,h5,h6⟩:=h;exact ⟨dn,rn,dk,rk,qa,qo,ra,ro,h1,h2,λh0=>(h3 h0).1,λh0=>(h4 h0).1,h5,h6⟩
section
def Duo.lt (h:Duo w0 N wb kp kb T M Tr Mr X P kP kR typed mp mr W):N<=W.heap.size/\∀b,b∈T\/b∈M\/b∈Tr\/b∈Mr\/b∈X->b<W.heap.size:=by
 have h1:=h.prog.lt;have h2:=h.ref.lt;refine ⟨zg (h.mN.2 _ h2.2.2) (Nat.le_of_lt (h2.2.1 _ h2.2.2)),λb hb=> ?_⟩;rcases hb with q|q|q|q|q
 ·exact h1.1 b q
 ·exact h1.2.1 b q
 ·exact h2.1 b q
 ·exact h2.2.1 b q
 ·exact (h.xs.2 b q).1
def Duo.keep (h:Duo w0 N wb kp kb T M Tr Mr X P kP kR typed mp mr W) (ho:W'.os=W.os/\W'.tape=W.tape/\W'.output=W.output/\W.heap.size<=W'.heap.size) (hb:∀b,b<N\/b∈T\/b∈M\/b∈Tr\/b∈Mr->W'.heap[b]? =W.heap[b]?):Duo w0 N wb kp kb T M Tr Mr X P kP kR typed mp mr W':=
 ⟨h.prog.stable ho.2.2.2 (λb q=>hb b (.inr (.inl q))) (λb q=>hb b (.inr (.inr (.inl q)))),h.ref.stable ho.2.2.2 (λb q=>hb b (.inr (.inr (.inr (.inl q))))) (λb q=>hb b (.inr (.inr (.inr (.inr q))))),⟨ho.1.trans h.low.os,ho.2.1.trans h.low.tape,ho.2.2.1.trans h.low.output,zg h.low.size ho.2.2.2,λb q=>(hb b (.inl q)).trans (h.low.block b q)⟩,⟨h.xs.1,λb q=>⟨yz (h.xs.2 b q).1 ho.2.2.2,(h.xs.2 b q).2⟩⟩,h.mN,h.mm,h.lst,h.wT⟩
def Duo.below (h:Duo w0 N wb kp kb T M Tr Mr X P kP kR typed mp mr W) (hb:Bw W W'):Duo w0 N wb kp kb T M Tr Mr X P kP kR typed mp mr W':=
 h.keep ⟨hb.os,hb.tape,hb.output,hb.size⟩ (λb q=>hb.block b (by
  rcases q with q|q|q|q|q
  ·exact yz q h.lt.1
  ·exact h.lt.2 b (.inl q)
  ·exact h.lt.2 b (.inr (.inl q))
  ·exact h.lt.2 b (.inr (.inr (.inl q)))
  ·exact h.lt.2 b (.inr (.inr (.inr (.inl q))))))
def Duo.withX (h:Duo w0 N wb kp kb T M Tr Mr X P kP kR typed mp mr W) {X':List Nat} (hX:wb∈X'/\∀b∈X',b<W.heap.size/\b∉M/\b∉Mr):Duo w0 N wb kp kb T M Tr Mr X' P kP kR typed mp mr W:={h with xs:=hX}
def Duo.onProg (h:Duo w0 N wb kp kb T M Tr Mr X P kP kR typed mp mr W) {M':List Nat} {D:List AP} {C:List Int} (hk:KX W' T M' kp P D C mp') (hM:∀b∈M',b∈M\/W.heap.size<=b) (ho:At M W W'):Duo w0 N wb kp kb T M' Tr Mr X P D kR C mp' mr W':=by
 have hl:=h.lt;have hr:=h.ref.lt;refine ⟨hk,h.ref.stable ho.size (λb q=>ho.block b (hr.1 b q) (λe=>(h.mm.1 b e).2 q)) (λb q=>ho.block b (hr.2.1 b q) (λe=>(h.mm.1 b e).1 q)),⟨ho.os.trans h.low.os,ho.tape.trans h.low.tape,ho.output.trans h.low.output,zg h.low.size ho.size,λb q=>(ho.block b om (λe=>o1 (h.mN.1 b e))).trans (h.low.block b q)⟩,⟨h.xs.1,λb q=>⟨yz (h.xs.2 b q).1 ho.size,λe=> ?_,(h.xs.2 b q).2.2⟩⟩,⟨λb e=> ?_,h.mN.2⟩,⟨λb e=>⟨λq=> ?_,λq=> ?_⟩,h.mm.2⟩,h.lst,h.wT⟩
 ·rcases hM b e with e|e
  ·exact (h.xs.2 b q).2.1 e
  ·have:=(h.xs.2 b q).1;omega
 ·rcases hM b e with e|e
  ·exact h.mN.1 b e
  ·omega
 ·rcases hM b e with e|e
  ·exact (h.mm.1 b e).1 q
  ·have:=hr.2.1 b q;omega
 ·rcases hM b e with e|e
  ·exact (h.mm.1 b e).2 q
  ·have:=hr.1 b q;omega
def Duo.onRef (h:Duo w0 N wb kp kb T M Tr Mr X P kP kR typed mp mr W) {C:List Nat} {D:List AP} (hk:RX W' Tr C kb P D mr') (hM:∀b∈C,b∈Mr\/W.heap.size<=b) (ho:At Mr W W'):Duo w0 N wb kp kb T M Tr C X P kP D typed mp mr' W':=by
 have hl:=h.lt;have hr:=h.prog.lt;refine ⟨h.prog.stable ho.size (λb q=>ho.block b (hr.1 b q) (λe=>h.mm.2 b e q)) (λb q=>ho.block b (hr.2.1 b q) (λe=>(h.mm.1 b q).1 e)),hk,⟨ho.os.trans h.low.os,ho.tape.trans h.low.tape,ho.output.trans h.low.output,zg h.low.size ho.size,λb q=>(ho.block b om (λe=>o1 (h.mN.2 b e))).trans (h.low.block b q)⟩,⟨h.xs.1,λb q=>⟨yz (h.xs.2 b q).1 ho.size,(h.xs.2 b q).2.1,λe=> ?_⟩⟩,⟨h.mN.1,λb e=> ?_⟩,⟨λb q=>⟨λe=> ?_,(h.mm.1 b q).2⟩,λb e q=> ?_⟩,h.lst,h.wT⟩
 ·rcases hM b e with e|e
  ·exact (h.xs.2 b q).2.2 e
  ·have:=(h.xs.2 b q).1;omega
 ·rcases hM b e with e|e
  ·exact h.mN.2 b e
  ·omega
 ·rcases hM b e with e|e
  ·exact (h.mm.1 b q).1 e
  ·have:=hr.2.1 b q;omega
 ·rcases hM b e with e|e
  ·exact h.mm.2 b e q
  ·have:=hr.1 b q;omega
def Duo.procs (h:Duo w0 N wb kp kb T M Tr Mr X P kP kP typed mp mr W) (hK:KOk P kP) (hO:Iu W wb kp kb X O):
  cT 29 #[qP wb 0] W λe w'=>e= .returned (.bool true)/\Bw W w':=by
 obtain ⟨dn,rn,dk,rk,qa,qo,ra,ro,D,_⟩:=hO;obtain ⟨base,g,cap,gp,cp,k,cs,L,ty,hr⟩:=h.ref;have hf:=hr.facts hK h.prog.pk;have E:kP.length=L.length:=oK hr;refine eQ wb kb (some kp) (some (xK gp 0)) gp cp none 0 0 [] kP W (D.cell (j:=0) rfl) (D.cell (j:=1) rfl) (by have:=hr.ker.1.cell (j:=5) rfl;rw [hr.pv,<-E] at this;exact this) (λ_=>rfl) ⟨λ_=>hr.ps.lt.2,λi p hp=> ?_⟩ (by have:=hr.ker.1.cell (j:=6) rfl;rw [hr.nils.1] at this;exact this) (λh=>by simp at h) (λj v hv=>by simp [TF] at hv) sI (o1 hf.n.1) (λp hp=> ?_) D.lt hr.ker.1.lt (kS h.prog hK)
 ·have C:=hp;rw [<-hr.kse] at C;unfold EZ at C;rw [ze] at C
  cases hx:L[i]? with
  |none=>rw [hx] at C;cases C
  |some x=>
   rw [hx] at C;obtain rfl:=zr C;refine ⟨x.2.aa,x.2.ga,x.2.ca,λj v hv=>hr.ps.cell hx hv,λh0=> ?_,?_⟩
   ·have:=hr.ps.pages x (zv hx) h0;exact ⟨this.1,this.2.1⟩
   ·rcases sf x.1.PS.length with q|q
    ·rw [uz q];intro i p hp;simp at hp
    ·exact (hr.ps.pages x (zv hx) q).2.2.2.1
 ·have ho:=hK.each p hp;exact ⟨ho.regs,λq hq=>o1 (ho.pages.each q hq),o1 (Ms ho.pages)⟩
def Duo.files (h:Duo w0 N wb kp kb T M Tr Mr X P kP kP typed mp mr W) (hK:KOk P kP) (hO:Iu W wb kp kb X O):
  cT 30 #[qP wb 0] W λe w'=>e= .returned (.bool true)/\Bw W w':=by
 obtain ⟨dn,rn,dk,rk,qa,qo,ra,ro,C,_⟩:=hO;obtain ⟨base,g,cap,gp,cp,k,cs,L,ty,hr⟩:=h.ref;have hf:=hr.facts hK h.prog.pk;have E:=h.prog.pk;obtain ⟨FL,J,G,I⟩:=kT h.prog;have D:P.xs=k.inos.map erase:=by rw [<-hr.toP];rfl
 have F:P.cs=cs:=by rw [<-hr.toP];rfl
 have H:kP.map (λz=>z.PS.length)=DP L:=by rw [<-hr.kse];unfold DP EZ;rw [rx];rfl
 rw [D,F] at G;refine eI wb base kb g cap (some kp) k cs (DP L) none 0 0 FL W (C.cell (j:=0) rfl) (C.cell (j:=1) rfl) C.lt hr.ker hr.cont (Sc (by rw [<-D];exact E.inv.tree)) (o1 hf.inos.1) (λx hx=> ?_) (by have:=E.used;rw [F] at this;omega) J (Wy G) I (MR (Mv L) hr.pv hr.ps.own) hr.nils.1 (by unfold DP;rw [zc];have:=hf.n.1;omega) (o1 hf.fr) (λw' hb=> ?_)
 ·have h1:=(E.inv.ids (erase x) (by rw [D];exact ui hx)).2;have h2:=h.lst;exact Int.le_trans h1 h2
 ·have hu:=mZ (h.prog.below hb) hK;rw [D,F,H,zc] at hu;exact hu
end
def O7 (xs:List Ino):∀(dir:Int) (l:List ByteArray),0<=(CI xs dir l).e
 |_,[]=>by unfold CI C8;decide
 |dir,[name]=>by unfold CI;exact si 0
 |dir,name::b::r=>by
  unfold CI;split
  ·unfold C8;decide
  ·split
   ·exact O7 xs _ (b::r)
   ·unfold C8;decide
def gI (xs:List Ino) (s:ByteArray):0<=(AH xs s).e:=by
 unfold AH;split
 ·unfold C8;decide
 ·exact si 0
 ·exact O7 xs _ _
def gJ {PL:List Nat} {s:ByteArray} {ss:List ByteArray} (h:P.ExecErr PL i s ss c):0<=c:=by
 rcases h with ⟨_,rfl⟩|⟨_,(⟨_,rfl⟩|⟨_,(⟨_,rfl⟩|⟨_,(h|⟨_,(⟨_,rfl⟩|⟨_,_,rfl⟩)⟩)⟩)⟩)⟩
 ·exact gI _ _
 ·decide
 ·decide
 ·rcases h with ⟨_,rfl⟩|⟨_,_,rfl⟩|⟨_,_,(⟨_,rfl⟩|⟨_,_,rfl⟩)⟩<;>decide
 ·decide
 ·decide
def cM {o:DoO} (h:DoR P ks pid k o):0<=o.c/\(o.c≠0->o.out=[]/\o.n=0/\o.m=0)/\o.out.length<=4096:=by
 have he:∀c:Int,0<=c->0<=(D6 ks c).c/\((D6 ks c).c≠0->(D6 ks c).out=[]/\(D6 ks c).n=0/\(D6 ks c).m=0)/\(D6 ks c).out.length<=4096:=λc hc=>⟨hc,λ_=>⟨rfl,rfl,rfl⟩,by show 0<=4096;decide⟩;have hz:∀(n m:Int) (l:List AP),0<=(DoO.mk n m [] 0 l).c/\((DoO.mk n m [] 0 l).c≠0->(DoO.mk n m [] 0 l).out=[]/\(DoO.mk n m [] 0 l).n=0/\(DoO.mk n m [] 0 l).m=0)/\(DoO.mk n m [] 0 l).out.length<=4096:=λn m l=>⟨si 0,λh=>absurd rfl h,by show 0<=4096;decide⟩;rcases h with ⟨_,rfl⟩|⟨x,_,_,(⟨_,rfl⟩|⟨_,h⟩)⟩
 ·exact he _ dz
 ·exact he _ dz
 ·rcases h with ⟨_,h⟩|⟨_,h⟩|⟨_,h⟩|⟨_,h⟩|⟨_,h⟩|⟨_,h⟩|⟨_,h⟩|⟨_,rfl⟩
  ·rcases h with ⟨_,rfl⟩|⟨_,_,rfl⟩|⟨_,_,k,_,rfl⟩
   ·exact he _ dz
   ·exact he _ dz
   ·exact hz _ _ _
  ·obtain ⟨i,_,(⟨c,hc,rfl⟩|⟨_,rfl⟩)⟩:=h
   ·exact he _ (gJ hc)
   ·exact hz _ _ _
  ·rcases h with ⟨_,rfl⟩|⟨_,rfl⟩
   ·exact he _ dz
   ·exact hz _ _ _
  ·rcases h with ⟨_,rfl⟩|⟨_,_,rfl⟩|⟨z,_,rfl⟩
   ·exact he _ dz
   ·exact he _ dz
   ·exact hz _ _ _
  ·rcases h with ⟨_,rfl⟩|⟨_,_,rfl⟩|⟨_,_,_,rfl⟩
   ·exact he _ dz
   ·exact he _ dz
   ·exact hz _ _ _
  ·rcases h with ⟨_,rfl⟩|⟨_,_,rfl⟩|⟨h1,_,rfl⟩
   ·exact he _ dz
   ·exact he _ dz
   ·exact ⟨si 0,λh=>absurd rfl h,by show (BG x.PS (IntKind.u64.wrap k.a) k.b.toNat).length<=4096;rw [K7];omega⟩
  ·rcases h with ⟨_,rfl⟩|⟨_,_,rfl⟩|⟨_,_,rfl⟩
   ·exact he _ dz
   ·exact he _ dz
   ·exact hz _ _ _
  ·exact he _ dz
def PY (o:POp):Dr:=⟨o.ck,o.ca,o.cb,o.s,o.ss,o.B⟩
structure oQ (o:POp):Prop where
 pid: -9223372036854775808<=o.a/\o.a<=9223372036854775807
 bytes:AK o.B
 sz:o.s.size<=200000/\o.ss.length<=1000/\(∀x∈o.ss,x.size<=200000)/\o.B.length<=200000/\o.E.length<=200000
def YK {v:Value} (h:w.ownsRow base 5 1 v B.length (AF B)):∃a c g,v= .slice a B.length c/\(0<B.length->a=some (xK g 0)/\base<=g/\g<w.heap.size/\v.ownBlock=some g)/\Am w g 0 B:=by
 rcases h.2 with ⟨rfl,h0⟩|⟨g,cap,C,rfl,h1,h2⟩
 ·exact ⟨none,0,0,by rw [h0],λq=>om,λi hi=>om⟩
 ·refine ⟨_,cap,g,rfl,λ_=>⟨rfl,(h.lt g rfl).1,(h.lt g rfl).2,rfl⟩,λi hi=> ?_⟩;rw [zq,h.cellAt i om];exact AN B i hi
def L8 {C:List Int} (h:AE w g 5 (AF (B++C))):Am w g 0 B:=λi hi=>by
 rw [zq]
 have:(AF (B++C))[i]? =some (.int .u8 (B.getD i 0)):=by
  rw [AN (B++C) i (by rw [zm];omega),zk,zk,zo hi]
 exact h.cell this
section
structure Mid (w0:World) (N wb:Nat) (kp:Addr) (kb:Nat) (T Tr Mr X:List Nat) (P:PK) (ks:List AP) (typed:List Int) (mp mr:Nat) (pid:Int) (ka:Dr) (s:Nat) (O:List Int) (t:Nat) (W:World) (a b:Int) (d:Value) (c:Int) (M:List Nat) (o:DoO):Prop where
 duo:Duo w0 N wb kp kb T M Tr Mr X P o.ks ks typed (mp+1) mr W
 out:Iu W wb kp kb X O
 ans:DoR P ks pid ka o
 eqs:o.c=c/\o.n=a/\o.m=b
 bytes:∃dn dk gb,d= .slice dn o.out.length dk/\(0<o.out.length->dn=some (xK gb 0)/\t<=gb/\gb<W.heap.size/\gb∉M/\AE W gb 5 (AF o.out))
 nil:c≠0->d= sN
 off:(∀b∈M,b<s\/t<=b)/\(∀b,b∈T\/b∈Tr\/b∈Mr\/b∈X->b<s)/\N<=s/\s<=t/\t<=W.heap.size
def Mid.keep {a b:Int} {d:Value} {o:DoO} (h:Mid w0 N wb kp kb T Tr Mr X P ks typed mp mr pid ka s O t W a b d c M o) (hk:Cd W W' s t):Mid w0 N wb kp kb T Tr Mr X P ks typed mp mr pid ka s O t W' a b d c M o:=by
 obtain ⟨o1,o2,o3,o4,o5⟩:=h.off;have hl:=h.duo.lt
 have hb:∀x,x<N\/x∈T\/x∈M\/x∈Tr\/x∈Mr->W'.heap[x]? =W.heap[x]? :=λx hx=>by
  rcases hx with q|q|q|q|q
  ·exact hk.block x om om
  ·have:=o2 x (.inl q);exact hk.block x om om
  ·have:=o1 x q;exact hk.block x (hl.2 x (.inr (.inl q))) om
  ·have:=o2 x (.inr (.inl q));exact hk.block x om om
  ·have:=o2 x (.inr (.inr (.inl q)));exact hk.block x om om
 have C:∀x∈X,W'.heap[x]? =W.heap[x]? :=λx q=>by
  have:=o2 x (.inr (.inr (.inr q)));exact hk.block x om om
 refine ⟨h.duo.keep ⟨hk.os,hk.tape,hk.output,hk.size⟩ hb,h.out.block h.duo.xs.1 C,h.ans,h.eqs,?_,h.nil,o1,o2,o3,o4,zg o5 hk.size⟩;obtain ⟨dn,dk,gb,h1,h2⟩:=h.bytes;refine ⟨dn,dk,gb,h1,λh0=> ?_⟩;obtain ⟨q1,q2,q3,q4,q5⟩:=h2 h0;exact ⟨q1,q2,yz q3 hk.size,q4,AJ q5 (hk.block gb q3 om)⟩
structure ph (w0:World) (N wb:Nat) (kp:Addr) (kb:Nat) (T Tr:List Nat) (P:PK) (typed:List Int) (mp mr:Nat) (W:World) (d r:Value) (M Mr X:List Nat) (ks:List AP) (O:List Int):Prop where
 duo:Duo w0 N wb kp kb T M Tr Mr X P ks ks typed (mp+1) mr W
 kok:KOk P ks
 row:∃ov wv,AE W wb 47 [.pointer (some kp),qP kb 0,ov,wv,.bool false]
 len:O.length<=1000000
 outs:∃dn rn dk rk qa ra,d= .slice dn O.length dk/\r= .slice rn O.length rk/\(0<O.length->dn=some (xK qa 0)/\qa∈X/\qa≠wb)/\(0<O.length->rn=some (xK ra 0)/\ra∈X/\ra≠wb)/\Am W qa 0 O/\Am W ra 0 O
def oR (h:Duo w0 N wb kp kb T M Tr Mr X P ks ks typed mp mr w) (hO:Iu w wb kp kb X O) (hK:KOk P ks) (hm:mp<=10000) (ho:oQ o) (hk:GM o.ck) {J:World->Prop} (hJ:∀W M' H X' I O',Duo w0 N wb kp kb T M' Tr H X' P I I typed (mp+1) mr W->KOk P I->Iu W wb kp kb X' O'->J W):
  cG wb kb kp N o w (λt W a b d c=>∃M' oo,Mid w0 N wb kp kb T Tr Mr X P ks typed mp mr o.a (PY o) w.heap.size O t W a b d c M' oo) (λW d r=>∃M' H X' I O',ph w0 N wb kp kb T Tr P typed mp mr W d r M' H X' I O') J:=by
 have G:=h.lt;have b5:=h.prog.pk;have f2:0<w.heap.size:=G.2 _ (.inl h.prog.err.2);refine ⟨?_,λW db la lc hb g5 hd hl=> ?_,λt W' g8 a b d c hm hk=> ?_,λt W' a b d c hm=> ?_,λt W' a b d c hm da dc f8 f5=> ?_,λW2 W3 d r hm hb=> ?_,λW2 d r hm=> ?_,λW2 d r hm=> ?_⟩
 ·obtain ⟨dn,rn,dk,rk,qa,qo,ra,ro,h1,_⟩:=hO;exact ⟨_,_,h1⟩
 ·have hW:=h.below hb;have d0:=hO.block h.xs.1 (λx q=>hb.block x (G.2 x (.inr (.inr (.inr (.inr q))))))
  obtain ⟨q,f3,d6,c9⟩:∃q,(0<o.ss.length->la=some (xK q 0))/\q<W.heap.size/\∀i,i<o.ss.length->W.cell? (xK q (0+i))=some (.string (o.ss.getD i ByteArray.empty)):=by
   rcases hl.2 with ⟨e1,e2⟩|⟨g,cap,g4,e1,_⟩
   ·exact ⟨db,λq=>om,hd.lt,λi hi=>om⟩
   ·have e:la=some (xK g 0):=by injection e1
    subst e;refine ⟨g,λ_=>rfl,(hl.lt g rfl).2,λi hi=> ?_⟩;rw [zq,hl.cellAt i om,ze,zz hi,zk,zz hi];rfl
  have hA:IW W (PY o) la q 0 db (o.B.length+2) M:=⟨f3,d6,c9,ho.sz.2.1,by have:=ho.sz.1;show o.s.size<=maxLen;unfold maxLen;omega,λi hi=>by have:=L8 hd i hi;rwa [zq] at this,hd.lt,λe=>by have:=G.2 db (.inr (.inl e));omega,by show o.B.length<=o.B.length+2;omega⟩;refine (pJ (k:=PY o) (lc:=lc) hW.prog hK hm hA hk ho.pid).mono ?_;rintro e W' ⟨a,b,d,v,rfl,oo,⟨hR,b3⟩,M',b8,a7,D⟩;have F:=hW.onProg b8 (λb q=>(a7 b q).imp id (λz=>z.1)) D;have E:=cM hR;have hs:=hb.size;have b0:=D.size;have a2:=d0.block h.xs.1 (λx q=>D.block x (yz (h.xs.2 x q).1 hs) (h.xs.2 x q).2.1)
  have a1:(∀b∈M',b<w.heap.size\/W.heap.size<=b)/\(∀b,b∈T\/b∈Tr\/b∈Mr\/b∈X->b<w.heap.size)/\N<=w.heap.size/\w.heap.size<=W.heap.size/\W.heap.size<=W'.heap.size:=by
   refine ⟨λb q=> ?_,λb q=> ?_,G.1,hs,b0⟩
   ·rcases a7 b q with z|z
    ·exact .inl (G.2 b (.inr (.inl z)))
    ·exact .inr z.1
   ·rcases q with q|q|q|q
    ·exact G.2 b (.inl q)
    ·exact G.2 b (.inr (.inr (.inl q)))
    ·exact G.2 b (.inr (.inr (.inr (.inl q))))
    ·exact G.2 b (.inr (.inr (.inr (.inr q))))
  have U:∀x,x<N\/w.heap.size<=x->x<W.heap.size->W'.heap[x]? =W.heap[x]? :=λx hx a8=>D.block x a8 (λe=>by have:=h.mN.1 x e;have:=G.2 x (.inr (.inl e));omega);rcases b3 with ⟨c0,rfl,ha,d5,Y⟩|⟨c0,rfl,rfl,rfl,q',rfl,f0,d1⟩
  ·refine ⟨a,b,d,_,oo.c,rfl,?_,λW2 _=>by rw [c0];exact Pt W2,⟨M',oo,F,a2,hR,⟨rfl,ha.symm,d5.symm⟩,?_,λq=>absurd c0 q,a1⟩,⟨D.os,D.tape,D.output,D.size⟩,U⟩
   ·rcases Y with ⟨_,rfl⟩|⟨gb,rfl,_⟩<;>exact ⟨_,_,_,rfl⟩
   ·rcases Y with ⟨e1,rfl⟩|⟨gb,rfl,d2,b4⟩
    ·exact ⟨none,0,0,by rw [e1];rfl,λq=>by rw [e1] at q;simp at q⟩
    ·refine ⟨_,_,gb,rfl,λ_=>⟨rfl,d2,b4.lt,λe=> ?_,b4⟩⟩;rcases a7 gb e with z|z
     ·have:=G.2 gb (.inr (.inl z));omega
     ·exact z.2 _ b4
  ·obtain ⟨k1,k2,k3⟩:=E.2.1 c0;refine ⟨0,0,_,_,oo.c,rfl,⟨_,_,_,rfl⟩,λW2 b9=> ?_,⟨M',oo,F,a2,hR,⟨rfl,k2,k3⟩,⟨none,0,0,by rw [k1];rfl,λq=>by rw [k1] at q;simp at q⟩,λ_=>rfl,a1⟩,⟨D.os,D.tape,D.output,D.size⟩,U⟩;exact fh oo.c q' W2 (b9.cell d1 (.inl f0)) (b9.cell b8.err.1 (.inr f2))
 ·obtain ⟨M',oo,hm⟩:=hm;exact ⟨M',oo,hm.keep hk⟩
 ·obtain ⟨M',oo,hm⟩:=hm;obtain ⟨dn,rn,dk,rk,qa,qo,ra,ro,h1,_⟩:=hm.out;exact ⟨_,_,h1⟩
 ·obtain ⟨M',oo,hm⟩:=hm;obtain ⟨o1,o2,o3,o4,o5⟩:=hm.off;have a4:=hm.duo.xs.2 wb hm.duo.xs.1;obtain ⟨sa,q,so,sc,f9,c2,d3⟩:=f5.strs
  obtain ⟨ab,ao,g1,g2,g3⟩:∃ab ao,(0<o.ss.length->sa=some (xK ab ao))/\ab<W'.heap.size/\∀j,j<o.ss.length->W'.cell? (xK ab (ao+j))=some (.string (o.ss.getD j ByteArray.empty)):=by
   rcases sf o.ss.length with z|z
   ·exact ⟨wb,0,λh=>om,a4.1,λj hj=>om⟩
   ·exact ⟨q,so,λh=>(c2 h).1,by have:=(c2 z).2;omega,d3⟩
  obtain ⟨f6,c7,g,d9,a9,d7⟩:=YK f8;obtain ⟨rfl,rfl⟩:da=f6/\dc=c7:=by injection d9 with q1 q2 q3;exact ⟨q1,q3⟩
  obtain ⟨bb,b1,b2⟩:∃bb,(0<o.B.length->da=some (xK bb 0)/\bb<W'.heap.size/\Am W' bb 0 o.B)/\bb∉Mr:=by
   rcases sf o.B.length with z|z
   ·exact ⟨wb,λh=>om,a4.2.2⟩
   ·exact ⟨g,λh=>⟨(a9 h).1,(a9 h).2.2.1,d7⟩,λe=>by have:=(a9 z).2.1;have:=o2 g (.inr (.inr (.inl e)));omega⟩
  have hA:X5 W' (PY o) sa ab ao da bb 0 Mr:=⟨g1,g2,g3,ho.sz.2.1,by have:=ho.sz.1;show o.s.size<=maxLen;unfold maxLen;omega,λx hx=>by have:=ho.sz.2.2.1 x hx;unfold maxLen;omega,b1,by have:=ho.sz.2.2.2.1;show o.B.length<=1000000;omega,b2⟩;have c6:=pG (ka:=PY o) (sc:=sc) (dc:=dc) (pid:=o.a) hm.duo.ref hK b5 hA hk;have d8:(Rs o (.slice da o.B.length dc)).toArray=Gd (PY o).kind (PY o).a (PY o).b (PY o).s sa (PY o).ss.length sc da (PY o).B.length dc:=by unfold Rs;rw [f9];rfl
  rw [d8];refine c6.mono ?_;rintro e W2 ⟨o',r,a6,rfl,hr,H,f4,a0,D,f7⟩;obtain rfl:o'=oo:=mJ hK.sorted a6 hm.ans;obtain ⟨rn,rk,rg,c5,a3,b7⟩:=YK hr;obtain ⟨dn,dk,gb,c1,Z⟩:=hm.bytes;have E:=cM a6;have b0:=D.size;have b6:∀x∈Mr,x<w.heap.size:=λx e=>o2 x (.inr (.inr (.inl e)))
  have c3:Am W2 gb 0 o'.out:=by
   rcases sf o'.out.length with z|z
   ·intro i hi;omega
   ·obtain ⟨_,z2,z3,_,z5⟩:=Z z;exact L8 (C:=[]) (by rw [xr];exact D.holds z5 (λe=>by have:=b6 _ e;omega))
  have c8:AK (PY o).B:=ho.bytes
  have f1:KOk P o'.ks:=mO hK b5.lp (λs=>by
   show AK (P.cs.getD _ []);rw [zk]
   cases hc:P.cs[(BO P.xs (AH P.xs s).n).toNat]? with
   |none=>exact Bx.2 (λx hx=>absurd hx sI)
   |some c=>exact b5.bytes c (zv hc)) c8 a6
  refine ⟨r,o'.out,gb,0,rg,0,dn,rn,dk,rk,by rw [<-hm.eqs.1,<-hm.eqs.2.1,<-hm.eqs.2.2],by have:=E.1;rw [hm.eqs.1] at this;omega,hm.nil,by have:=E.2.2;omega,c1,c5,λh0=>(Z h0).1,λh0=>(a3 h0).1,c3,b7,b0,λx hx a8=>D.block x a8 (λe=>by have:=b6 x e;omega),M',H,wb::(if 0<o'.out.length then [gb,rg] else []),o'.ks,o'.out,?_,f1,?_,by have:=E.2.2;omega,?_⟩
  ·have F:=hm.duo.onRef f4 a0 D;have d4:=hm.duo.lt;refine F.withX ⟨sI,λx hx=> ?_⟩;rcases vp.1 hx with rfl|hx
   ·exact F.xs.2 _ F.xs.1
   ·split at hx
    ·rename_i z
     obtain ⟨_,z2,z3,z4,z5⟩:=Z z;obtain ⟨_,y2,y3,y4⟩:=a3 z;rcases vp.1 hx with rfl|hx
     ·refine ⟨om,z4,λe=> ?_⟩;rcases a0 _ e with u|u
      ·have:=b6 _ u;omega
      ·omega
     ·obtain rfl:x=rg:=sU hx;exact ⟨y3,λe=>by have:=d4.2 x (.inr (.inl e));omega,f7 x y4⟩
    ·simp at hx
  ·obtain ⟨g9,h5,g6,h2,h3,h4,g0,g7,h1,_⟩:=hm.out;exact ⟨_,_,D.holds h1 a4.2.2⟩
  ·refine ⟨dn,rn,dk,rk,gb,rg,c1,c5,λz=>⟨(Z z).1,by simp [z],λe=> ?_⟩,λz=>⟨(a3 z).1,by simp [z],λe=> ?_⟩,c3,b7⟩
   ·have:=(Z z).2.1;have:=o2 wb (.inr (.inr (.inr hm.duo.xs.1)));omega
   ·have:=(a3 z).2.1;have:=a4.1;omega
 ·obtain ⟨M',H,X',I,O',hm⟩:=hm;obtain ⟨ov,wv,R⟩:=hm.row;obtain ⟨dn,rn,dk,rk,qa,ra,q1,q2,q3,q4,q5,q6⟩:=hm.outs;have hX:=hm.duo.xs.2;exact ⟨M',H,X',I,O',hm.duo.below hb,hm.kok,⟨ov,wv,R.below hb R.lt⟩,hm.len,dn,rn,dk,rk,qa,ra,q1,q2,q3,q4,Fk q5 (λz=>hb.block _ (hX _ (q3 z).2.1).1),Fk q6 (λz=>hb.block _ (hX _ (q4 z).2.1).1)⟩
 ·obtain ⟨M',H,X',I,O',hm⟩:=hm;exact hm.row
 ·obtain ⟨M',H,X',I,O',hm⟩:=hm;obtain ⟨ov,wv,R⟩:=hm.row;obtain ⟨dn,rn,dk,rk,qa,ra,rfl,rfl,q3,q4,q5,q6⟩:=hm.outs;have hg:W2.grownBy ((W2.setCell (xK wb 2) (.slice dn O'.length dk)).setCell (xK wb 3) (.slice rn O'.length rk)) (some wb):=AI (AI (zj W2 _) 2 _) 3 _;have c4:=hm.duo.xs.2 wb hm.duo.xs.1;have a5:=hm.duo.lt;have V:∀x,x<W2.heap.size->x≠wb->((W2.setCell (xK wb 2) (.slice dn O'.length dk)).setCell (xK wb 3) (.slice rn O'.length rk)).heap[x]? =W2.heap[x]? :=λx hx hn=>hg.block x hx (sU hn);refine hJ _ M' H X' I O' (hm.duo.keep ⟨hg.os,hg.tape,hg.output,hg.size⟩ (λx q=> ?_)) hm.kok ⟨dn,rn,dk,rk,qa,0,ra,0,(R.set 2 _).set 3 _,hm.len,λz=>⟨(q3 z).1,(q3 z).2.1⟩,λz=>⟨(q4 z).1,(q4 z).2.1⟩,Fk q5 (λz=>V _ (hm.duo.xs.2 _ (q3 z).2.1).1 (q3 z).2.2),Fk q6 (λz=>V _ (hm.duo.xs.2 _ (q4 z).2.1).1 (q4 z).2.2)⟩;have hw:=hm.duo.wT
  rcases q with q|q|q|q|q
  ·exact V x om om
  ·exact V x (a5.2 x (.inl q)) (λe=>hw.1 (e▸q))
  ·exact V x (a5.2 x (.inr (.inl q))) (λe=>c4.2.1 (e▸q))
  ·exact V x (a5.2 x (.inr (.inr (.inl q)))) (λe=>hw.2.1 (e▸q))
  ·exact V x (a5.2 x (.inr (.inr (.inr (.inl q))))) (λe=>c4.2.2 (e▸q))
end
def tB (OZ:List POp) (i:Nat):Nat:=((OZ.take i).map (λo=>o.E.length)).sum
def VH (h:OZ[i]? =some o):tB OZ (i+1)=tB OZ i+o.E.length:=JV h _
def Kt (OZ:List POp) (i:Nat):tB OZ i<=tB OZ (i+1):=by
 cases h:OZ[i]? with
 |some o=>rw [VH h];omega
 |none=>
  have hl:=List.getElem?_eq_none_iff.1 h;unfold tB;rw [xx hl,xx om];exact zx _
def LXk (w0:World) (N wb:Nat) (kp:Addr) (kb:Nat) (OZ:List POp) (i:Nat) (W:World):Prop:=∃T M Tr Mr X P ks typed O,Duo w0 N wb kp kb T M Tr Mr X P ks ks typed (i+1) (tB OZ i) W/\KOk P ks/\Iu W wb kp kb X O/\typed.length<=tB OZ i
def LXs (s:Nat) (w0:World) (N wb:Nat) (kp:Addr) (kb:Nat) (OZ:List POp) (i:Nat) (W:World):Prop:=∃T M Tr Mr X P ks typed O,Duo w0 N wb kp kb T M Tr Mr X P ks ks typed (i+1) (tB OZ i) W/\KOk P ks/\Iu W wb kp kb X O/\typed.length<=tB OZ i/\N<=s/\∀b,b∈T\/b∈M\/b∈Tr\/b∈Mr\/b∈X->b<s
section
def Duo.more (h:Duo w0 N wb kp kb T M Tr Mr X P kP kR typed mp mr W) (h1:mp<=mp') (h2:mr<=mr'):Duo w0 N wb kp kb T M Tr Mr X P kP kR typed mp' mr' W:={h with prog:=h.prog.more h1,ref:=h.ref.more h2}
def LXk.below (h:LXk w0 N wb kp kb OZ i W) (hb:Bw W W'):LXk w0 N wb kp kb OZ i W':=by
 obtain ⟨T,M,Tr,Mr,X,P,ks,typed,O,h1,h2,h3,h4⟩:=h;exact ⟨T,M,Tr,Mr,X,P,ks,typed,O,h1.below hb,h2,h3.block h1.xs.1 (λb q=>hb.block b (h1.xs.2 b q).1),h4⟩
def LXk.next (h:LXk w0 N wb kp kb OZ i W):LXk w0 N wb kp kb OZ (i+1) W:=by
 obtain ⟨T,M,Tr,Mr,X,P,ks,typed,O,h1,h2,h3,h4⟩:=h;exact ⟨T,M,Tr,Mr,X,P,ks,typed,O,h1.more om (Kt OZ i),h2,h3,zg h4 (Kt OZ i)⟩
def LXk.start (h:LXk w0 N wb kp kb OZ i W):LXs W.heap.size w0 N wb kp kb OZ i W:=by
 obtain ⟨T,M,Tr,Mr,X,P,ks,typed,O,h1,h2,h3,h4⟩:=h;exact ⟨T,M,Tr,Mr,X,P,ks,typed,O,h1,h2,h3,h4,h1.lt⟩
def LXs.below (h:LXs s w0 N wb kp kb OZ i W) (hb:Bw W W'):LXs s w0 N wb kp kb OZ i W':=by
 obtain ⟨T,M,Tr,Mr,X,P,ks,typed,O,h1,h2,h3,h4,h5⟩:=h;exact ⟨T,M,Tr,Mr,X,P,ks,typed,O,h1.below hb,h2,h3.block h1.xs.1 (λb q=>hb.block b (h1.xs.2 b q).1),h4,h5⟩
def LXs.all (h:LXs s w0 N wb kp kb OZ i W):LXk w0 N wb kp kb OZ i W:=by
 obtain ⟨T,M,Tr,Mr,X,P,ks,typed,O,h1,h2,h3,h4,h5⟩:=h;exact ⟨T,M,Tr,Mr,X,P,ks,typed,O,h1,h2,h3,h4⟩
def oS:cJ wb kb kp (LXk w0 N wb kp kb OZ i):=by
 refine ⟨λw w' h hb=>h.below hb,λw h=> ?_,λw h=> ?_,λw h=> ?_⟩
 ·obtain ⟨T,M,Tr,Mr,X,P,ks,typed,O,h1,h2,h3,h4⟩:=h;exact ⟨O,h3.row⟩
 ·obtain ⟨T,M,Tr,Mr,X,P,ks,typed,O,h1,h2,h3,h4⟩:=h;exact h1.procs h2 h3
 ·obtain ⟨T,M,Tr,Mr,X,P,ks,typed,O,h1,h2,h3,h4⟩:=h;exact h1.files h2 h3
def LX3 (s:Nat) (w0:World) (N wb:Nat) (kp:Addr) (kb:Nat) (OZ:List POp) (i:Nat) (t:Nat) (W:World):Prop:=∃T M Tr Mr X P ks typed O,Duo w0 N wb kp kb T M Tr Mr X P ks ks typed (i+1) (tB OZ i) W/\KOk P ks/\Iu W wb kp kb X O/\typed.length<=tB OZ (i+1)/\N<=s/\s<=t/\t<=W.heap.size/\(∀b∈M,b<s\/t<=b)/\∀b,b∈T\/b∈Tr\/b∈Mr\/b∈X->b<s
def LX3.keep (h:LX3 s w0 N wb kp kb OZ i t W) (hk:Cd W W' s t):LX3 s w0 N wb kp kb OZ i t W':=by
 obtain ⟨T,M,Tr,Mr,X,P,ks,typed,O,h1,h2,h3,h4,o3,o4,o5,o1,o2⟩:=h;have hl:=h1.lt;refine ⟨T,M,Tr,Mr,X,P,ks,typed,O,h1.keep ⟨hk.os,hk.tape,hk.output,hk.size⟩ (λx hx=> ?_),h2,h3.block h1.xs.1 (λx q=> ?_),h4,o3,o4,zg o5 hk.size,o1,o2⟩
 ·rcases hx with q|q|q|q|q
  ·exact hk.block x om om
  ·have:=o2 x (.inl q);exact hk.block x om om
  ·have:=o1 x q;exact hk.block x (hl.2 x (.inr (.inl q))) om
  ·have:=o2 x (.inr (.inl q));exact hk.block x om om
  ·have:=o2 x (.inr (.inr (.inl q)));exact hk.block x om om
 ·have:=o2 x (.inr (.inr (.inr q)));exact hk.block x om om
def YL (ho:At M W W') (h1:∀b∈M,N<=b/\b<s):KV N s W W':=⟨ho.size,λx hx hl=>ho.block x hl (λe=>o1 (h1 x e))⟩
def ke {cp:Nat} {k:RK} {ty ty':List Value} (h:RXR W T M kb P ks m base g cap gp cp k cs L ty) {v':Value} {W4:World} (ho:W4.ownsRow base 5 1 v' ty'.length ty') (hg:W.grownBy W4 k.tv.ownBlock) (hv:v'.ownBlock=k.tv.ownBlock\/v'.ownBlock=some W.heap.size) (hm:ty'.length<=m'):
  (W4.cell? (xK kb 9)=some k.tv/\W4.frozen? (xK kb 9)=false)/\Ez W T M kb P ks m' (W4.setCell (xK kb 9) v'):=by
 have Y:=h.ker.1.lt;have U:some kb≠k.tv.ownBlock:=λe=>(h.tne kb e.symm).1 rfl;have G:=h.ker.1.grown hg U;have D:=AI (zj W4 (some kb)) 9 v';have R:=hg.size;have J:=D.size;have F:∀b,b<W.heap.size->b≠kb->k.tv.ownBlock≠some b->(W4.setCell (xK kb 9) v').heap[b]? =W.heap[b]? :=λb hb h1 h2=>(D.block b om (sU h1)).trans (hg.block b hb (λe=>h2 e.symm));have C:At M W (W4.setCell (xK kb 9) v'):=⟨D.os.trans hg.os,D.tape.trans hg.tape,D.output.trans hg.output,zg R J,λb hb hn=>F b hb (λe=>hn (e▸h.mM.1)) (λe=>hn (h.mM.2.2.2.1 b e))⟩;have hT:∀b∈T,(W4.setCell (xK kb 9) v').heap[b]? =W.heap[b]? :=λb hB=>C.block b (h.tl b hB) (h.apart b hB);have V:=h.glt;have I:=h.ps.lt
 have E:∀b,v'.ownBlock=some b->b≠kb/\b≠g/\b≠gp/\∀x∈L,0<x.1.PS.length->x.2.ga≠b:=λb e=>by
  rcases hv with q|q
  ·exact h.tne b (q.symm.trans e)
  ·rw [q] at e;obtain rfl:=zr e;exact ⟨om,om,om,λx hx h0=>o1 (h.ps.pages x hx h0).2.1⟩
 have H:∀b,b∈M++v'.ownBlock.toList->b∈M\/(W.heap.size<=b/\b<(W4.setCell (xK kb 9) v').heap.size):=λb hB=>by
  rcases vo.1 hB with q|q
  ·exact .inl q
  ·have e:v'.ownBlock=some b:=sU q;rcases hv with z|z
   ·exact .inl (h.mM.2.2.2.1 b (z.symm.trans e))
   ·have e2:=e;rw [z] at e2;obtain rfl:=zr e2;exact .inr ⟨zx _,o1 (ho.lt _ e).2⟩
 refine ⟨⟨G.cell rfl,G.frozen 9⟩,M++v'.ownBlock.toList,⟨base,g,cap,gp,cp,{k with tv:=v'},cs,L,ty',⟨G.set 9 v',Ck h.ker.2 (λb e=> ?_)⟩,h.kbl,o1 h.bs,h.pv,h.nils,Ck ho (λb e=>D.block b (ho.lt b e).2 (sU (E b e).1)),hm,h.toP,Kr h.cont h.tT hT,h.ps.block C.size (F gp I.2 h.ne.1 (λe=>(h.tne gp e).2.2.1 rfl)) (λx hx h0=>F _ (h.ps.pages x hx h0).2.1 (h.ne.2.2 x hx h0).1 (λe=>(h.tne _ e).2.2.2 x hx h0 rfl)),h.kse,h.tT,⟨yn _ h.mM.1,yn _ h.mM.2.1,yn _ h.mM.2.2.1,λb e=>ry _ (by show b∈v'.ownBlock.toList;rw [show v'.ownBlock=some b from e];simp),λx hx h0=>yn _ (h.mM.2.2.2.2 x hx h0)⟩,λb hB hm=> ?_,h.ne,E,λb hB=>yz (h.tl b hB) C.size,λb hB=> ?_⟩,λb hB=>(H b hB).imp id (λz=>z.1),C⟩
 ·have e:g=b:=zr e;rw [<-e];exact F g V.2 (o1 h.kbl) (λe=>(h.tne g e).2.1 rfl)
 ·rcases H b hm with z|z
  ·exact h.apart b hB z
  ·have:=h.tl b hB;omega
 ·rcases H b hB with z|z
  ·exact yz (h.ml b z) C.size
  ·exact z.2
def oT (V:OZ[i]? =some o) (ho:oQ o) (hi:i<=400) (b1:tB OZ (i+1)<=200000) (hE:AK o.E) (hk:o.kind=0->GM o.ck) (a6:∀W,Bw w W->Nv W N o) (Y:N<=w.heap.size):
  cK wb kb kp N o w (LXs w.heap.size w0 N wb kp kb OZ i) (LX3 w.heap.size w0 N wb kp kb OZ i) (LXk w0 N wb kp kb OZ (i+1)):=by
 refine ⟨λW h=> ?_,λW W' h hb=>h.below hb,λ_ _ W h=>h.all.next,λh0 W hb h=> ?_,λW h hs=> ?_,λW h hs=> ?_,λh3 W db hb h b0 hd=> ?_,λt W W' h hk=>h.keep hk,λt W h=> ?_,λW h hs=> ?_,λW h=> ?_⟩
 ·obtain ⟨T,M,Tr,Mr,X,P,ks,typed,O,h1,h2,h3,h4,h5⟩:=h;exact ⟨O,h3.row⟩
 ·obtain ⟨T,M,Tr,Mr,X,P,ks,typed,O,h1,h2,h3,h4,h5⟩:=h;exact me wb kb kp N o W _ _ _ (oR h1 h3 h2 om ho (hk h0) (J:=LXk w0 N wb kp kb OZ (i+1)) (λW M' H X' a4 O' q1 q2 q3=>⟨T,M',Tr,H,X',P,a4,typed,O',q1.more (zx _) (Kt OZ i),q2,q3,zg h4 (Kt OZ i)⟩)) (a6 W hb) (zg Y hb.size) ho.sz.2.2.2.1 ho.sz.2.1 (λe=>by have:=hk h0;rw [e] at this;unfold GM at this;omega)
 ·obtain ⟨T,M,Tr,Mr,X,P,ks,typed,O,h1,h2,h3,h4,h5,h6⟩:=h;refine (mX h1.prog).mono ?_;rintro e W' ⟨rfl,F,C⟩;have hd:=h1.onProg F (λb q=> .inl q) C;exact ⟨rfl,⟨T,M,Tr,Mr,X,P,ks,typed,O,hd,h2,h3.block h1.xs.1 (λb q=>C.block b (h1.xs.2 b q).1 (h1.xs.2 b q).2.1),h4,h5,h6⟩,YL C (λb q=>⟨h1.mN.1 b q,h6 b (.inr (.inl q))⟩)⟩
 ·obtain ⟨T,M,Tr,Mr,X,P,ks,typed,O,h1,h2,h3,h4,h5,h6⟩:=h;have hr:=h1.ref;obtain ⟨base,g,cap,gp,cp,k,cs,L,ty,hr⟩:=hr;have hf:=hr.facts h2 h1.prog.pk;refine (fN kb base gp cp L W (by have:=hr.ker.1.cell (j:=5) rfl;rwa [hr.pv] at this) hr.ps hf.n.1 (λx hx=> ?_)).mono ?_
  ·have:=h2.each _ (Np hr hx);rcases this.st with q|q
   ·omega
   ·omega
  ·rintro e W' ⟨rfl,rfl⟩;exact ⟨rfl,⟨T,M,Tr,Mr,X,P,ks,typed,O,h1,h2,h3,h4,h5,h6⟩,zx _,λ_ _ _=>rfl⟩
 ·obtain ⟨T,M,Tr,Mr,X,P,ks,typed,O,h1,h2,h3,h4,h5,h6⟩:=h;have a3:=VH V;refine (mY h1.prog (x:= sL db 0 o.E.length (o.E.length+2)) (N:=o.E) ⟨_,_,rfl,λ_=>⟨db,0,rfl,hd.lt,L8 hd⟩⟩ om).mono ?_;rintro e W' ⟨rfl,M',F,D,C⟩;have a8:=h1.onProg F D C;refine ⟨rfl,⟨T,M',Tr,Mr,X,P,ks,typed++o.E,O,a8,h2,h3.block h1.xs.1 (λb q=>C.block b (h1.xs.2 b q).1 (h1.xs.2 b q).2.1),by rw [zm];omega,Y,hb.size,C.size,λb q=> ?_,λb q=> ?_⟩,YL C (λb q=>⟨h1.mN.1 b q,h6 b (.inr (.inl q))⟩)⟩
  ·rcases D b q with z|z
   ·exact .inl (h6 b (.inr (.inl z)))
   ·exact .inr z
  ·rcases q with q|q|q|q
   ·exact h6 b (.inl q)
   ·exact h6 b (.inr (.inr (.inl q)))
   ·exact h6 b (.inr (.inr (.inr (.inl q))))
   ·exact h6 b (.inr (.inr (.inr (.inr q))))
 ·obtain ⟨T,M,Tr,Mr,X,P,ks,typed,O,h1,h2,h3,h4,o3,o4,o5,o1,o2⟩:=h;have hr:=h1.ref;obtain ⟨base,g,cap,gp,cp,k,cs,L,ty,hr⟩:=hr;have a3:=VH V;have a2:=h1.xs.2 wb h1.xs.1;have Z:=hr.tyl;refine ⟨⟨O,h3.row⟩,o2 kb (.inr (.inr (.inl hr.mM.1))),k.tv,ty,base,hr.ker.1.cell rfl,?_,hr.typ,hr.bs,om,λb e=>⟨o2 b (.inr (.inr (.inl (hr.mM.2.2.2.1 b e)))),λe2=>a2.2.2 (e2▸hr.mM.2.2.2.1 b e)⟩,λv' W4 a7 a5 a1=> ?_⟩
  ·rcases hr.typ.2 with ⟨q1,_⟩|⟨g,cap,a9,q1,_⟩
   ·exact ⟨_,_,_,q1⟩
   ·exact ⟨_,_,_,q1⟩
  ·have hl:(ty++AF o.E).length=ty.length+o.E.length:=by rw [zm,AG]
   obtain ⟨⟨u1,u2⟩,H,R,D,C⟩:=ke (m':=tB OZ (i+1)) hr (ty':=ty++AF o.E) (by rw [hl];exact a7) a5 a1 (by rw [hl];omega);have hd:=h1.onRef R D C;exact ⟨u1,u2,T,M,Tr,H,X,P,ks,typed,O,hd.more om (zx _),h2,h3.block h1.xs.1 (λb q=>C.block b (h1.xs.2 b q).1 (h1.xs.2 b q).2.2),h4⟩
 ·obtain ⟨T,M,Tr,Mr,X,P,ks,typed,O,h1,h2,h3,h4,h5,h6⟩:=h;refine (aV h1.prog).mono ?_;rintro e W' ⟨r,rfl,⟨b,kk,rfl,_⟩,M',F,D,C⟩;exact ⟨b,kk,rfl,T,M',Tr,Mr,X,P,ks,typed,O,(h1.onProg F D C).more om (Kt OZ i),h2,h3.block h1.xs.1 (λb q=>C.block b (h1.xs.2 b q).1 (h1.xs.2 b q).2.1),zg h4 (Kt OZ i)⟩
 ·obtain ⟨T,M,Tr,Mr,X,P,ks,typed,O,h1,h2,h3,h4⟩:=h;have hr:=h1.ref;obtain ⟨base,g,cap,gp,cp,k,cs,L,ty,hr⟩:=hr;have hu:k.uv= sN:=hr.nils.2.2;have hg:=AI (zj W (some kb)) 10 sN;have G:∀b,b<W.heap.size->b≠kb->(W.setCell (xK kb 10) sN).heap[b]? =W.heap[b]? :=λb hb hn=>hg.block b hb (sU hn);have C:At Mr W (W.setCell (xK kb 10) sN):=At.of_grown hg hr.mM.1;have hT:∀b∈Tr,(W.setCell (xK kb 10) sN).heap[b]? =W.heap[b]? :=λb hB=>C.block b (hr.tl b hB) (hr.apart b hB)
  have I:AE (W.setCell (xK kb 10) sN) kb 85 (k.cells (sL g 0 k.inos.length cap)):=by
   have:=hr.ker.1.set 10 sN;have e:(k.cells (sL g 0 k.inos.length cap)).set 10 sN=k.cells (sL g 0 k.inos.length cap):=by unfold RK.cells;rw [hu];rfl
   rwa [e] at this
  have a0:=hr.glt;have R:RX (W.setCell (xK kb 10) sN) Tr Mr kb P ks (tB OZ (i+1)):=⟨base,g,cap,gp,cp,k,cs,L,ty,⟨I,Ck hr.ker.2 (λb e=>by have e:g=b:=zr e;rw [<-e];exact G g a0.2 (by have:=hr.kbl;omega))⟩,hr.kbl,zg hr.bs hg.size,hr.pv,hr.nils,Ck hr.typ (λb e=>G b (hr.typ.lt b e).2 (hr.tne b e).1),hr.tyl,hr.toP,Kr hr.cont hr.tT hT,hr.ps.block hg.size (G gp hr.ps.lt.2 hr.ne.1) (λx hx h0=>G _ (hr.ps.pages x hx h0).2.1 (hr.ne.2.2 x hx h0).1),hr.kse,hr.tT,hr.mM,hr.apart,hr.ne,hr.tne,λb hB=>yz (hr.tl b hB) hg.size,λb hB=>yz (hr.ml b hB) hg.size⟩;have U:W.cell? (xK kb 10)=some k.uv:=hr.ker.1.cell rfl;rw [hu] at U;exact ⟨U,hr.ker.1.frozen 10,T,M,Tr,Mr,X,P,ks,typed,O,h1.onRef R (λb q=> .inl q) C,h2,h3.block h1.xs.1 (λb q=>C.block b (h1.xs.2 b q).1 (h1.xs.2 b q).2.2),h4⟩
def mg (h:LXk w0 N wb kp kb OZ i w) (G:OZ[i]? =some o) (ho:oQ o) (hi:i<=400) (F:tB OZ (i+1)<=200000) (hE:AK o.E) (hk:o.kind=0->GM o.ck) (h1:o.kind≠1) (D:Nv w N o) (C:N<=w.heap.size):
  cT 12 #[qP wb 0,.agg o.cells.toArray] w λe w'=>e= .returned (.bool true)/\LXk w0 N wb kp kb OZ (i+1) w':=
 gG wb kb kp N o w _ _ _ (oT G ho hi F hE hk (λW hb=>D.below (hb.mono C)) C) h.start ho.sz.2.2.2.2 oS D C h1
end
def oU (p:PK) (f:AQ):(p.put f).2.lp=p.lp:=by
 unfold PK.put;split
 ·unfold PK.mkdir;split
  ·rfl
  ·split
   ·rfl
   ·split<;>rfl
 ·show (p.fileOut f.path f.bytes).lp=p.lp;unfold PK.fileOut;split
  ·exact (ID p f.path).2.2.2.1
  ·exact (ID p f.path).2.2.2.1
def cN:∀(FZ:List AQ) (p:PK),(p.puts FZ).2.lp=p.lp
 |[],p=>rfl
 |f::r,p=>by
  unfold PK.puts;split
  ·rfl
  ·rw [cN r,oU]
def kq {α:Type} {l:List α} {x:α} (h:x∈l) (f:α->Nat):f x<=(l.map f).sum:=LY (ui h)
def al {FZ:List AQ} (h:E4 FZ OZ=true):Pe FZ=true/\OZ.length<=400/\(∀i,tB OZ i<=200000)/\∀o∈OZ,o.s.size<=200000/\o.ss.length<=1000/\(∀x∈o.ss,x.size<=200000)/\o.B.length<=200000/\o.E.length<=200000:=by
 unfold E4 at h;simp only [ug,rh] at h;obtain ⟨h1,h2,h3⟩:=h;unfold Dy KS at h3;rw [uh,uh] at h3
 have hE:(OZ.map (λo=>o.E.length)).sum<=200000:=by
  have:(OZ.map (λo=>o.E.length)).sum<=(OZ.map (λo=>CU o+o.E.length)).sum:=by
   clear h1 h2 h3
   induction OZ with
   |nil=>exact zx _
   |cons a r ih=>
    simp only [ub,rz];omega
  omega
 refine ⟨?_,h1,λi=> ?_,λo ho=> ?_⟩
 ·unfold Pe;rw [ve h2,ve om];rfl
 ·unfold tB;rw [List.map_take];have:=Hp (OZ.map (λo=>o.E.length)) i;omega
 ·have hw:=kq ho (λo=>CU o+o.E.length);have hc:CU o+o.E.length<=200000:=om;have C:¬1000<o.ss.length:=λq=>by unfold CU at hc;rw [vu q] at hc;omega
  unfold CU IY at hc;rw [vz C,uh] at hc;exact ⟨om,om,λx hx=>o1 (kq hx ByteArray.size),om,om⟩
def gQ {B:Nat} {k:RK} {pc gn cn:Nat} (C:BtA P W w' k cs g cap gp pc gn cn) (hi:EX P) (a5:1<=P.lp) (hk:KR W B kp P) (hb:Bw W w') (H:AE w' wb 47 (Mj (.pointer (some kp)) (qP (W.heap.size+1) 0))) (hw:W.heap.size+1<wb/\gp<wb/\gn<wb) (hN:N<=B) (hB:B<=W.heap.size) (I:Below N w0 w')
  (a0:0<N) (a3:1<N) (b1:3<N) (J:Ge W) (b0:W.rangeAt 1 0 DK) (a6:cE W 3 0 (iV mm)):LXk w0 N wb kp (W.heap.size+1) OZ 0 w':=by
 obtain ⟨T,M,hX,m1,m2,m3,m4⟩:=pK hk C.ok hN a0 a3 b1 J b0 a6;have V:=Xr C hi;have b4:=C.procs.lt gp rfl;have a7:=C.pages.lt gn rfl;have b3:=C.rep.2.lt g rfl;have E:(BA P).PS.length=(Ad (P.fileOf Aj)).length+2:=by simp [BA,CS]
 obtain ⟨Tr,Z⟩:=xE (k.inos.filterMap (λx=>AV x.bytes))
 have F:∀b∈Tr,∃vs,AE w' b 5 vs:=λb hb=>by
  rw [Z] at hb;obtain ⟨x,hx,e⟩:=List.mem_filterMap.1 hb;obtain ⟨i,U⟩:=yj.1 hx;have a8:=(zy.1 U).1;obtain ⟨cc,hc⟩:∃c,cs[i]? =some c:=⟨_,zz (by rw [C.cont.1];exact a8)⟩;rcases C.cont.2 i x cc U hc with ⟨_,h1⟩|⟨_,q',h1,h2⟩
  ·rw [h1] at e;cases e
  ·rw [h1] at e;obtain rfl:q'=b:=by simpa [AV] using e
   exact ⟨_,h2⟩
 have a1:∀b∈Tr,b∉[W.heap.size+1,g,gp,gn]:=λb hb=>by
  obtain ⟨vs,hv⟩:=F b hb;have n1:=Ab hv C.rep.1 dz;have n2:some b≠some g:=CJ hv (CA C.rep.2) dz;have n3:some b≠some gp:=CJ hv (CA C.procs) dz;have n4:some b≠some gn:=CJ hv (CA C.pages) dz;simp only [vp,uu,or_false];rintro (rfl|rfl|rfl|rfl)
  ·exact n1 rfl
  ·exact n2 rfl
  ·exact n3 rfl
  ·exact n4 rfl
 have Y:∀b,b∈[W.heap.size+1,g,gp,gn]↔b=W.heap.size+1\/b=g\/b=gp\/b=gn:=λb=>sI
 have G:∀b∈[W.heap.size+1,g,gp,gn],W.heap.size<=b/\b<w'.heap.size:=λb hb=>by
  have:=C.rep.1.lt;rcases (Y b).1 hb with rfl|rfl|rfl|rfl<;>omega
 have a9:g≠wb:=λe=>by
  have:some wb≠some g:=CJ H (CA C.rep.2) dz;exact this (by rw [e])
 have b2:=C.apart
 have R:Ai [(BA P,(⟨some (xK gn 0),gn,cn⟩:RL))]=Ij Gk 0 (sL gn 0 ((Ad (P.fileOf Aj)).length+2) cn) (AO (P.fileOf Aj) 24 8) (65024+(Dc [BI]:Int)):=by
  rw [Mq];unfold Ai;rw [vi,List.flatMap_nil,xr];unfold rpc;rw [show (BA P,(⟨some (xK gn 0),gn,cn⟩:RL)).1.PS.length=(Ad (P.fileOf Aj)).length+2 from E];rfl
 have a2:RX w' Tr [W.heap.size+1,g,gp,gn] (W.heap.size+1) P [BA P] (tB OZ 0):=by
  refine ⟨W.heap.size+2,g,cap,gp,pc,k,cs,[(BA P,⟨some (xK gn 0),gn,cn⟩)],[],C.rep,om,om,C.pv,⟨C.nils.1,C.nils.2.1,C.nils.2.2.2.1⟩,?_,Nat.zero_le _,C.toP,C.cont,⟨?_,λx hx h0=> ?_,sI,λx hx=> ?_⟩,rfl,λx hx q n c hq=> ?_,⟨sI,sI,sI,λb e=> ?_,λx hx h0=> ?_⟩,a1,⟨om,om,λx hx h0=> ?_⟩,λb e=> ?_,λb hb=> ?_,λb hb=>(G b hb).2⟩
  ·rw [C.nils.2.2.1];exact ⟨rfl,.inl ⟨rfl,rfl⟩⟩
  ·rw [R];exact C.procs
  ·obtain rfl:x=(BA P,⟨some (xK gn 0),gn,cn⟩):=sU hx;exact ⟨rfl,a7.2,by show gn≠gp;omega,V.proc.pages,V.proc.fz⟩
  ·obtain rfl:x=(BA P,⟨some (xK gn 0),gn,cn⟩):=sU hx;show (BA P).PS.length<=cn;rw [E];exact Ux C.pages
  ·rw [Z];exact List.mem_filterMap.2 ⟨x,hx,by rw [hq];rfl⟩
  ·rw [C.nils.2.2.1] at e;cases e
  ·obtain rfl:x=(BA P,⟨some (xK gn 0),gn,cn⟩):=sU hx;simp
  ·obtain rfl:x=(BA P,⟨some (xK gn 0),gn,cn⟩):=sU hx;exact ⟨by show gn≠W.heap.size+1;omega,by show gn≠g;omega⟩
  ·rw [C.nils.2.2.1] at e;cases e
  ·obtain ⟨vs,hv⟩:=F b hb;exact hv.lt
 refine ⟨T,M,Tr,[W.heap.size+1,g,gp,gn],[wb],P,[BA P],[],[],⟨hX.below hb,a2,I,⟨sI,λb a4=> ?_⟩,⟨m1,λb D=>o1 (G b D).1⟩,⟨λb D=>⟨λe=> ?_,λe=> ?_⟩,λb D e=> ?_⟩,?_,⟨λe=> ?_,λe=> ?_,om⟩⟩,kW C.ok (Ox C _) a5,⟨none,none,0,0,0,0,0,0,H,sI,λh=>by simp at h,λh=>by simp at h,λi hi=>by simp at hi,λi hi=>by simp at hi⟩,Nat.zero_le _⟩
 ·obtain rfl:b=wb:=sU a4;refine ⟨H.lt,λe=>o1 (m3 b e),λe=> ?_⟩;rcases (Y b).1 e with q|q|q|q
  ·omega
  ·exact a9 q.symm
  ·omega
  ·omega
 ·have:=m3 b D;have:=(G b e).1;omega
 ·obtain ⟨vs,hv⟩:=F b e;have h3:=m3 b D;refine m4 b D vs ?_;unfold AE at hv ⊢;rw [<-hb.block b h3];exact hv
 ·have:=m2 b e;have:=(G b D).1;omega
 ·have:=C.last;rw [<-C.toP];show k.last<=1000000;omega
 ·have:=m2 wb e;omega
 ·obtain ⟨vs,hv⟩:=F wb e;exact Ab hv H dz rfl
def gR (lp lf lo li lb:Int) (fv sv:Value) (w:World)
  (a0:∀W,Bw w W->cT 4 #[] W λe w'=>e= .returned (.bool true)/\Bw W w')
  (J:∀W,Bw w W->cT 5 #[.agg #[iV lp,iV lf,iV lo,iV li,iV lb,fv],sv,iV 917534,iV 0] W λe w'=>e= .returned (.bool true)/\Below w.heap.size W w'):
  cT 3 #[.agg #[iV lp,iV lf,iV lo,iV li,iV lb,fv],sv] w λe w'=>e= .returned (.bool true)/\Bw w w':=by
 obtain ⟨W1,D⟩:=xE (w.alloc (Obj.cells #[iV lp,iV lf,iV lo,iV li,iV lb,fv] 26));have I:Bw w W1:=by rw [D];exact bA
 have H:AE W1 w.heap.size 26 [iV lp,iV lf,iV lo,iV li,iV lb,fv]:=by rw [D];exact AE.new w 26 _
 obtain ⟨SB,E⟩:=xE w.heap.size;rw [<-E] at H;have a2:=AC (a0 W1 I);obtain ⟨Y,V,R,U⟩:=H4 D I H J;clear D I H a0 J;go_enter func3,ntmps3
 go_upto_region 1 with fail
 rw [<-AB Y,<-E];clear Y E
 go_wp2_with fail
 refine a2.mono ?_;rintro e w2 ⟨rfl,G⟩;have F:=V.trans (G.mono V.size);have Z:=AC (AB U w2 F);have C:=R.below G R.lt;have d0:=C.cell (j:=0) rfl;have d1:=C.cell (j:=1) rfl;have d2:=C.cell (j:=2) rfl;have d3:=C.cell (j:=3) rfl;have d4:=C.cell (j:=4) rfl;have d5:=C.cell (j:=5) rfl;have a4:=AC F;clear G F C a2 U
 go_wp2_with fail
 refine Z.mono ?_;rintro e w3 ⟨rfl,a1⟩;have a3:=AC (a4.trans a1);clear a1 Z d0 d1 d2 d3 d4 d5;go_wp2;go_ret;exact ⟨rfl,AB a3⟩
def gT (lp lf lo li lb:Int) (fa:Option Addr) (fb D H:Nat) (FZ:List AQ) (LS:List Az) (sa:Option Addr) (sb so sc:Nat) (OZ:List POp) (w:World) (R:0<FZ.length->fa=some (xK fb D)/\fb<w.heap.size) (hf:Dz w fb D FZ LS) (hb:∀f∈FZ,f.path.size<=140737488355328/\f.bytes.length<=140737488355328) (hl:FZ.length<=140737488355328) (a8:∀f∈FZ,AK f.bytes)
  (hs:IG w w.heap.size sa sb so OZ) (hz:∀o∈OZ,KQ o) (a7:OZ.length<=140737488355328) (b6:∀o∈OZ,(-9223372036854775808<=o.a/\o.a<=9223372036854775807)/\AK o.B/\AK o.E)
  (hg:cE w 0 0 (.iface 204 (.agg #[qP 6 33]))) (V:0<w.heap.size) (hT:w.rangeAt 1 0 DK) (a1:1<w.heap.size) (hM:cE w 3 0 (iV mm)) (a0:3<w.heap.size)
  (c5:∀W,Bw w W->cT 4 #[] W λe w'=>e= .returned (.bool true)/\Bw W w'):
  cT 3 #[.agg #[iV lp,iV lf,iV lo,iV li,iV lb,.slice fa FZ.length H],.slice sa OZ.length sc] w λe w'=>e= .returned (.bool true)/\Bw w w':=by
 have a9:∀W,Bw w W->Dz W fb D FZ LS:=λW h=>⟨hf.len,λi f l hi c0=>by
  obtain ⟨x0,x1,x2,x3,x4⟩:=hf.at_ i f l hi c0;have h0:0<FZ.length:=o1 (zy.1 hi).1;have a3:=(R h0).2;refine ⟨by rw [h.cell (p:=(xK fb (D+i*3))) a3];exact x0,by rw [h.cell (p:=(xK fb (D+i*3+1))) a3];exact x1,by rw [h.cell (p:=(xK fb (D+i*3+2))) a3];exact x2,λh0=>⟨(x3 h0).1,yz (x3 h0).2 h.size⟩,λj hj=> ?_⟩
  rw [h.cell (p:=(xK l.q (l.o+j))) (x3 om).2];exact x4 j hj⟩
 refine gR lp lf lo li lb _ _ w c5 (λW I=> ?_);refine oP w.heap.size lp lf lo li lb _ sa sb so sc OZ (E4 FZ OZ) (λwb i W'=>E4 FZ OZ=true/\∃kp kb,LXk W w.heap.size wb kp kb OZ i W') W I.size (hs.below I) (λh=>(al h).2.1) a7 (λW2 h2=> ?_) (λG W2 h2=> ?_) ?_ ?_ ?_ ?_
 ·have h3:=I.trans (h2.mono I.size);exact gH lp lf lo li lb fa fb D H FZ sa sb so sc OZ W2 w.heap.size h3.size (λh=>(R h).1) (λh=>yz (R h).2 h3.size) (a9 W2 h3).in hb hl (hs.below h3) hz a7
 ·have h3:=I.trans (h2.mono I.size);obtain ⟨a5,b0⟩:=eX (al G).1;have C:∀(W':World) (q j:Nat) (v:Value),Bw w W'->q<w.heap.size->w.cell? (xK q j)=some v->W'.cell? (xK q j)=some v:=λW' q j v h hq hv=>by rw [h.cell (p:=(xK q j)) hq];exact hv
  refine (io lp lf lo li lb fa fb D H FZ LS W2 (λh=>⟨(R h).1,yz (R h).2 h3.size⟩) (a9 W2 h3) a5 b0 (λf hf=>⟨by have:=(hb f hf).1;unfold maxLen;omega,a8 f hf⟩) (C W2 _ _ _ h3 V hg) (yz V h3.size) KR gB (λw' va vb Y b1 h4 h5 h6=> ?_)).mono ?_
  ·have h7:=h3.trans (h4.mono h3.size);have c9:=h7.size;exact YG lp lf lo li lb mm va vb Y FZ b1 w' a5 b0 (λf hf=>⟨by have:=(hb f hf).1;unfold maxLen;omega,a8 f hf⟩) h5 h6 (λj v hv=>C w' _ _ _ h7 a1 (hT j v hv)) om (C w' _ _ _ h7 a0 hM) om
  rintro e w' ⟨J,(⟨x,wp,hx,rfl⟩|⟨U,wb,B,kp,Wr,k,cs,g,cap,gp,pc,gn,cn,rfl,c8,b8,c7,c1,b3,c6,F,a4,b2,b7⟩)⟩
  ·exact ⟨_,x,rfl,J,λh0=>absurd h0 hx⟩
  ·refine ⟨_,0,rfl,J,λ_=>⟨wb,rfl,G,kp,Wr.heap.size+1,?_⟩⟩;have b9:Bw W2 Wr:=⟨F.os.symm.trans J.os,F.tape.symm.trans J.tape,F.output.symm.trans J.output,c1,λb hb=>(F.block b om).symm.trans (J.block b hb)⟩;have h5:=h3.trans (b9.mono h3.size);exact gQ b3 (V8 lp lf lo li lb FZ) (by rw [cN];exact U.1.1) c6 F b8 a4 (zg h3.size b2) b7 ((h2.mono I.size).trans (J.mono h3.size)) V a1 a0 (C Wr _ _ _ h5 V hg) (λj v hv=>C Wr _ _ _ h5 a1 (hT j v hv)) (C Wr _ _ _ h5 a0 hM)
 ·rintro wb i W1 W2 ⟨G,kp,kb,h⟩ c4;exact ⟨G,kp,kb,h.below c4⟩
 ·rintro wb i W1 ⟨G,kp,kb,h⟩;exact ⟨G,kp,kb,h.next⟩
 ·rintro wb i W1 ⟨G,kp,kb,T,M,Tr,Mr,X,P,ks,typed,O,h1,h2,⟨dn,rn,dk,rk,qa,qo,ra,ro,a2,_⟩,h4⟩;exact ⟨a2.cell rfl,h1.low⟩
 ·rintro wb i W1 o Z h1 hk c2 c3 ⟨G,kp,kb,h⟩;obtain ⟨_,d0,b5,b4⟩:=al G;have a6:=zv Z;have d1:=(zy.1 Z).1;obtain ⟨k1,k2,k3⟩:=b6 o a6;refine (mg h Z ⟨k1,k2,b4 o a6⟩ om (b5 _) k3 hk h1 c2 c3).mono ?_;rintro e w' ⟨rfl,h'⟩;exact ⟨rfl,G,kp,kb,h'⟩
section
open ChangeShapes WideShapes ChangeAt
def VN (h:W.ShapedOpen Tryz.prog):∃m,W.cell? (xK 3 0)=some (iV m):=
 cell_of_shapedOpen_int (t:=3) (zero:=#[iV 0]) (k:= .i64) h (tu kf) kf rfl kf kf underlying3
def YU (v0:Value) (W:World) (lp lf lo li lb:Int) (fa:Option Addr) (fb D C:Nat) (FZ:List AQ) (LS:List Az) (h:O9 W v0.cells.toList lp lf lo li lb fa fb D C FZ LS) (hv:∃cs,v0= .agg cs) {sb so:Nat} (hs:IG W W.heap.size sa sb so OZ) (U:OZ.length<=140737488355328) (hz:∀o∈OZ,KQ o/\(-9223372036854775808<=o.a/\o.a<=9223372036854775807)/\AK o.B/\AK o.E) (hL:laidMetH Tryz.prog E5 W) (hS:W.ShapedOpen Tryz.prog):
  cT 3 #[v0,.slice sa OZ.length sc] W λe w'=>e= .returned (.bool true)/\Bw W w':=by
 obtain ⟨cs,rfl⟩:=hv
 have V:cs=#[iV lp,iV lf,iV lo,iV li,iV lb,.slice fa FZ.length C]:=by
  have e:cs.toList=[iV lp,iV lf,iV lo,iV li,iV lb,.slice fa FZ.length C]:=h.cells;exact Array.toList_inj.1 e
 subst V;have hg:=Rw hL;have hT:=Sn hL;obtain ⟨mm,hM⟩:=VN hS;have J:0<W.heap.size:=zu W _ hg;have H:1<W.heap.size:=zu W _ (hT 0 _ rfl);have I:3<W.heap.size:=zu W _ hM;refine gT lp lf lo li lb fa fb D C FZ LS sa sb so sc OZ W h.at_ h.files h.each h.len h.byte hs (λo ho=>(hz o ho).1) U (λo ho=>(hz o ho).2) hg J hT H hM I (λw' hb=>gP w' KR (λw'' va vb F R h2 h3 h4=> ?_));have G:=hb.trans (h2.mono hb.size);have Y:=G.size;refine YG 2 10 2 3 1000 mm va vb F [Iv] R w'' dz (by simp [Iv,KW]) (λf hf=> ?_) h3 h4 (λj v hv=>by rw [G.cell (p:=(xK 1 (0+j))) H];exact hT j v hv) om ((G.cell (p:=(xK 3 0)) I).trans hM) om;have e:f=Iv:=sU hf;subst e;exact ⟨dz,ai⟩
abbrev exA:Array Value:=#[.agg #[iV 0,iV 0,iV 0,iV 0,iV 0,sN],sN]
def lA (os:Os) {H:Type} (enc:TypeId×Value->H):∃C,DataW.whole enc Tryz.prog (((World.doorLaid Tryz.prog 400 os).layVars Tryz.prog Bk).forCall (λ_ _=>0) ⟨#[],exA,[]⟩).memory Tryz.f3.params.toList cfU.vars false exA.toList 8=some ([.agg [.agg [.lit (.int .i64 0),.lit (.int .i64 0),.lit (.int .i64 0),.lit (.int .i64 0),.lit (.int .i64 0)],.nil],.nil],[],C):=
 ⟨[],kf⟩
def lB (os:Os) {H:Type} (enc:TypeId×Value->H):cfU.bare.sizedB enc Tryz.prog Tryz.f3 false (((World.doorLaid Tryz.prog 400 os).layVars Tryz.prog Bk).forCall (λ_ _=>0) ⟨#[],exA,[]⟩).memory exA 8=true:=kf
def gZ (os:Os):(((World.doorLaid Tryz.prog 400 os).layVars Tryz.prog Bk).forCall (λ_ _=>0) ⟨#[],exA,[]⟩).Shaped Tryz.prog:=World.shaped_of_ZipB kf kf
def nM (os:Os):Input.okWideB Tryz.prog (((World.doorLaid Tryz.prog 400 os).layVars Tryz.prog Bk).forCall (λ_ _=>0) ⟨#[],exA,[]⟩) 3 ⟨#[],exA,[]⟩=true:=kf
def lC (H:Type):Rows.uptoSmall H ([.agg [.agg [.lit (.int .i64 0),.lit (.int .i64 0),.lit (.int .i64 0),.lit (.int .i64 0),.lit (.int .i64 0)],.nil],.nil]++[])=true:=kf
def gd:Tryz.prog.inits.idxOf? 3=none:=kf
def VO (os:Os) (D:os.Started) (H:Type) (enc:TypeId×Value->H) (F:Stop.Interp):
  ReturnsInHanded {} checked os 3 .any (cfU.preRow enc Tryz.prog Tryz.f3 cfR.domain false cfR.laid) ((cfU.at F).post enc Tryz.prog Tryz.f3 false true false false):=by
 obtain ⟨Z,hx⟩:=lA os enc
 refine returnsInHanded_of_row (C:=checked) (s:=cfU) own D gd func3
  ⟨(World.doorLaid Tryz.prog 400 os).layVars Tryz.prog Bk,λ_ _=>0,⟨#[],exA,[]⟩,World.layVars_os _ _ _,gZ os,(Input.okWide_of_okWideB (base:=0) (nM os)).1,(Input.okWide_of_okWideB (nM os)).2,OpenSpec.preRow_of_cond 8 hx rfl (λk hk=>by cases hk;exact lC H) (lB os enc) (VL os _),by
   simp only [Assume.holds]
   exact ⟨sI,sI,λ_=>Modest.zero,sI,sI⟩⟩ ?_
 intro W base args ds gs U I hW _ G b0 hL hS _;have E:∀(j:Nat) t v,Tryz.f3.params[j]? =some t->args[j]? =some v->Value.okWide Tryz.prog W .any base t v:=I;have a8:=hW;obtain ⟨p,q,a7,hV,rfl,b2,b3⟩:=hW;have hA:DataW.TrodAll enc Tryz.prog W 0 (λ_=>true) true Tryz.f3.params.toList args.toList ds p:=a7;rw [params3] at hA E;obtain ⟨v0,v1,d0,d1,p0,p1,rfl,rfl,rfl,h0,h1⟩:=trodAll_two hA;obtain ⟨rfl,rfl⟩:=trodVars_none hV;have k0:=h0;have k1:=h1;have a2:∀x∈p0,x.block<W.heap.size:=by obtain ⟨m,hm⟩:=k0;exact DataW.trod_lt m _ _ _ hm
 have a4:∀x∈p1,x.block<W.heap.size:=by obtain ⟨m,hm⟩:=k1;exact DataW.trod_lt m _ _ _ hm
 obtain ⟨cs,a9,_⟩:=okWide_struct underlying26 (E 0 26 v0 rfl rfl)
 have Y:∀n∈d0.weights Tryz.prog 26,n<=reachBytes:=λn hn=>by
  have:=za.1 b0 n (DataW.weights_mem_each (j:=0) (t:=26) (d:=d0) (by rw [show checked.prog=Tryz.prog from rfl];first|rfl|(rw [params3];rfl)) rfl n hn);simpa using this
 have b1:Rows.uptoBulk d1<=1048576:=by
  have h:=tu (G _ rfl);have:=Kv (d:=d1) (l:=[d0,d1]++[]) sI;omega
 have a6:∀(e:Ending) (W':World),e= .returned (.bool true)/\Bw W W'->∃v,e= .returned v/\(cfU.at F).post enc Tryz.prog Tryz.f3 false true false false W #[v0,v1] v W':=by
  rintro e W' ⟨rfl,V⟩;exact ⟨_,rfl,_,_,_,[],_,[],a8,trodAll_mk1 (shut_bool underlying4 _),trodAll_mk2 (Below.trod cO kf (tu kf) k0 V a2) (Below.trod cO kf (tu kf) k1 V a4),rfl,V.frame _,λh=>by cases h⟩
 obtain ⟨fuel,hf⟩:=h0;obtain ⟨lp,lf,lo,li,lb,fa,fb,R,J,FZ,LS,hO⟩:=VJ hf Y;obtain ⟨a0,a1⟩:=h1
 have a5:v1.cells.toList=[v1]:=by
  obtain ⟨a,n,c,rfl⟩:=okWide_slice underlying27 (E 1 27 v1 rfl rfl);rfl
 rw [a5] at a1;obtain ⟨sa,sb,so,sc,OZ,rfl,hs,a3,hz⟩:=kx a1 b1;exact (YU v0 W lp lf lo li lb fa fb R J FZ LS hO ⟨cs,a9⟩ hs a3 hz hL hS).mono a6
def YV:Rows.ExecsUptoSaid:=
 OpenClaim.holds_of_cond 3 Tryz.f3 rfl rfl rfl rfl rfl rfl rfl ⟨rfl,rfl,rfl,rfl,rfl⟩ rfl rfl rfl rfl rfl YS func3 gY mw my (λos C H enc _ F=>by rw [OpenClaim.pre_eq_preRow];exact VO os C H enc F)
def pR (f:FuncId) (fn:Func) (hf:Tryz.prog.funcNamed "tinyos/tinyoslaw.Execs" =some f) (C:Tryz.prog.funcs[f]? =some fn):true=Tryz.prog.looks []/\∀(j:Nat) t,fn.params[j]? =some t->Tryz.prog.wantsStandIn t=false:=by
 obtain rfl:f=3:=zr (YS.symm.trans hf)|>.symm;obtain rfl:fn=Tryz.f3:=(zr (func3.symm.trans C)).symm;refine ⟨kz,λj t ht=> ?_⟩;rw [params3] at ht
 match j,ht with
 |0,ht=>
   obtain rfl:t=26:=sU ht.symm
   exact pP
 |1,ht=>
   obtain rfl:t=27:=sU ht.symm
   exact pQ
 |(k+2),ht=>simp at ht
theorem execs_card_holds:Rows.ExecsUptoCardSaid:=
 Claim7.holds_tied_plain_at .later [] [.data,.handle,.data,.data,.pinned] true (true, "446c95828bcbd99496ee9492997e49e4b1a25d9411ea6352a708388f3f5f8337") true
  YV (λ_ h=>by cases h) mz (λ_ h=>by cases h) YR rfl ⟨rfl,rfl⟩ nA rfl pR nB
#print axioms execs_card_holds
end
end Go.Proofs.YtpcjkidgohpeoaaGreatDoor
