import Derived.Test.YtpcjkidgohpeoaaGreatDoorG25
import Derived.Test.YtpcjkidgohpeoaaGreatDoorG24
set_option maxRecDepth 100000
set_option maxHeartbeats 2000000
set_option linter.all false
namespace Go.Proofs.YtpcjkidgohpeoaaGreatDoor
open RowKit Maps Proofs.Tryz
variable {B:List Nat} {w w':World} {b cb kb pm n k:Nat} {d:PD} {PL K:List (Int×Nat)} {D:Nat->PD} {x y:Int×Nat}
structure At (B:List Nat) (w w':World):Prop where
 os:w'.os=w.os
 tape:w'.tape=w.tape
 output:w'.output=w.output
 size:w.heap.size<=w'.heap.size
 block:∀k,k<w.heap.size->k∉B->w'.heap[k]? =w.heap[k]?
def At.refl (B:List Nat) (w:World):At B w w:=⟨rfl,rfl,rfl,zx _,λ_ _ _=>rfl⟩
def At.trans {a b c:World} (h:At B a b) (k:At B b c):At B a c:=
 ⟨k.os.trans h.os,k.tape.trans h.tape,k.output.trans h.output,zg h.size k.size,λi hi hn=>(k.block i (yz hi h.size) hn).trans (h.block i hi hn)⟩
def At.of_below (h:Bw w w'):At B w w':=⟨h.os,h.tape,h.output,h.size,λk hk _=>h.block k hk⟩
def At.of_grown (h:w.grownBy w' (some b)) (hb:b∈B):At B w w':=⟨h.os,h.tape,h.output,h.size,λk hk hn=>h.block k hk (λe=>hn (by rw [zr e];exact hb))⟩
def At.mono {C:List Nat} (h:At B w w') (hb:∀k∈B,k∈C):At C w w':=⟨h.os,h.tape,h.output,h.size,λk hk hn=>h.block k hk (λe=>hn (hb k e))⟩
def At.holds {t:TypeId} {vs:List Value} (h:At B w w') (hh:AE w b t vs) (hn:b∉B):AE w' b t vs:=by
 unfold AE at*;rw [h.block b (AE.lt hh) hn];exact hh
def Cu (d:PD):List Value:=AX d.p.pc d.p.R (AW d.p.PS) d.p.pid d.p.par d.p.st d.p.su d.wk d.xs
structure PDW (cb:Nat) (d:PD):Prop where
 regs:d.p.R.length=16
 pages:Bc d.p.PS
 fds:IS cb d.xs
def PDW.space (h:PDW cb d):(AW d.p.PS).length=65792:=CM (λp hp=>(h.pages.each p hp).2.2.2.2)
def upd (D:Nat->PD) (b:Nat) (d:PD):Nat->PD:=λc=>if c=b then d else D c
def Fx (D:Nat->PD) (b:Nat) (d:PD):upd D b d b=d:=by simp [upd]
def GG (D:Nat->PD) {c:Nat} (d:PD) (h:c≠b):upd D b d c=D c:=by simp [upd,h]
structure XK (w:World) (kb pm n cb:Nat) (PL:List (Int×Nat)) (D:Nat->PD):Prop where
 k9:w.cell? (xK kb 9)=some (.map (some pm))
 k6:w.cell? (xK kb 6)=some (qP cb 0)
 kl:kb<w.heap.size
 map:AZ w pm n PL
 each:∀x∈PL,AE w x.2 193 (Cu (D x.2))/\PDW cb (D x.2)/\(D x.2).p.pid=x.1
 apart:∀x∈PL,x.2≠kb/\x.2≠pm
 one:∀x∈PL,∀y∈PL,x.2=y.2->x=y
 kpm:kb≠pm
def D4 (h:PDW cb d) (j:Nat) (v:Value) (hv:([iV d.p.pid,iV d.p.par,iV d.p.st,iV d.p.su,iV d.wk]++d.xs)[j]? =some v):(Cu d)[65809+j]? =some v:=Nj h.regs h.space j v hv
def RM (h:PDW cb d) (j:Nat) (v:Value):(Cu d).set (65809+j) v=CK d.p.pc d.p.R (AW d.p.PS)++(([Value.int .i64 d.p.pid,Value.int .i64 d.p.par,Value.int .i64 d.p.st,Value.int .i64 d.p.su,Value.int .i64 d.wk]++d.xs).set j v):=JO _ _ _ _ _ _ h.regs h.space j v
def XK.fdsAt (h:XK w kb pm n cb PL D) (hx:x∈PL):w.rangeAt x.2 65814 (D x.2).xs:=λj v hv=>by
 rw [show 65814+j=65809+(5+j) by omega];refine (h.each x hx).1.cell (D4 (h.each x hx).2.1 (5+j) v ?_);rw [zn sI];simpa using hv
def XK.below (h:XK w kb pm n cb PL D) (hb:Bw w w'):XK w' kb pm n cb PL D:=
 ⟨by rw [hb.cell (p:=(xK kb 9)) h.kl];exact h.k9,by rw [hb.cell (p:=(xK kb 6)) h.kl];exact h.k6,yz h.kl hb.size,h.map.kept (BE hb) sI,λx hx=>⟨(h.each x hx).1.below hb (h.each x hx).1.lt,(h.each x hx).2⟩,h.apart,h.one,h.kpm⟩
def XK.put (h:XK w kb pm n cb PL D) (hx:x∈PL) (hg:w.grownBy w' (some x.2)) (hh:AE w' x.2 193 (Cu d)) (hd:PDW cb d) (hp:d.p.pid=x.1):XK w' kb pm n cb PL (upd D x.2 d):=by
 have hk:kb≠x.2:=λe=>(h.apart x hx).1 e.symm;refine ⟨hg.cell h.k9 (sU hk),hg.cell h.k6 (sU hk),yz h.kl hg.size,h.map.kept hg (by simp;exact λe=>(h.apart x hx).2 e.symm),λy hy=> ?_,h.apart,h.one,h.kpm⟩;by_cases e:y.2=x.2
 ·have:=h.one y hy x hx e;subst this;rw [Fx];exact ⟨hh,hd,hp⟩
 ·rw [GG _ _ e];exact ⟨(h.each y hy).1.grown hg (sU e),(h.each y hy).2⟩
def XK.objects (h:XK w kb pm n cb PL D):
  cT 163 #[qP kb 0] w λe w'=>e= .returned (.map (some w.heap.size))/\Jb w' w.heap.size/\Bw w w':=
 Mo kb pm n cb PL (λx=>(D x.2).xs) w h.k9 h.k6 h.kl h.map (λx hx=>⟨(h.each x hx).1.lt,(h.each x hx).2.1.fds,h.fdsAt hx⟩)
def XK.children (h:XK w kb pm n cb PL D) (hn:PL.length<=1000) (hx:x∈PL):
  cT 195 #[qP kb 0,qP x.2 0] w λe w'=>∃v,e= .returned v/\w'.ownsRow w.heap.size 102 1 v (DM (λy=>(D y.2).p.par) x.1 PL).length (EY (DM (λy=>(D y.2).p.par) x.1 PL))/\Bw w w':=
 Sa kb pm n x.2 x.1 PL (λy=>(D y.2).p.par) w h.k9 h.kl h.map (rl hx) hn (by
  rw [<-(h.each x hx).2.2]
  exact (h.each x hx).1.cell (D4 (h.each x hx).2.1 0 _ rfl)) (λy hy=>(h.each y hy).1.cell (D4 (h.each y hy).2.1 1 _ rfl))
def freed (d:PD) (i:Nat):PD:={d with xs:=d.xs.set i .nilIface}
def IS.freed {xs:List Value} (hx:IS cb xs) (i:Nat):IS cb (xs.set i .nilIface):=⟨by rw [yu];exact hx.1,λy hy=>by
 rcases rj hy with h|h
 ·exact hx.2 y h
 ·exact .inr h⟩
def ek (kb pm n cb:Nat) (PL:List (Int×Nat)) (D:Nat->PD) (x:Int×Nat) (i:Nat) (w:World) (hi:i<8) (h:XK w kb pm n cb PL D) (hx:x∈PL):
  cT 194 #[qP kb 0,qP x.2 0,iV i] w λe w'=>e= .returned (.tuple #[])/\w.grownBy w' (some x.2)/\AE w' x.2 193 (Cu (freed (D x.2) i)):=by
 obtain ⟨hh,hd,E⟩:=h.each x hx;have hf:=h.fdsAt hx;obtain ⟨xs,F⟩:=xE ((D x.2).xs);obtain ⟨pb,J⟩:=xE x.2;obtain ⟨z,L⟩:=xE (xs.getD i .nilIface);have X:xs.length=8:=by rw [F];exact hd.fds.1
 have I:xs[i]? =some z:=by rw [L,zk,zz om];rfl
 have R:z=Ef cb\/z= .nilIface:=hd.fds.2 z (by rw [<-F];exact zv I);have Y:=hf i z (by rw [<-F];exact I);have Z:=hh.frozen (65814+i);have i0:(0:Int)<=(i:Int):=om;have i1:(i:Int)<8:=om;obtain ⟨W1,C⟩:=xE (w.setCell (xK x.2 (65814+i)) .nilIface);have H:=AI (zj w (some x.2)) (65814+i) .nilIface;rw [<-C] at H
 have G:AE W1 x.2 193 (Cu (freed (D x.2) i)):=by
  have h1:=hh.set (65814+i) .nilIface;rw [<-C,show 65814+i=65809+(5+i) by omega,RM hd] at h1;unfold Cu freed AX;rw [ul _ _ sI] at h1;simpa using h1
 have M:=h.put hx H G (d:=freed (D x.2) i) ⟨hd.regs,hd.pages,hd.fds.freed i⟩ E;have a1:=AC M.objects;have O:=AC (λww (h:Jb ww W1.heap.size)=>ZQ h cb);have a0:=AC (jE cb);have HE:Hid (∀w',Bw W1 w'->w.grownBy w' (some x.2)/\AE w' x.2 193 (Cu (freed (D x.2) i))):=λw' hb=>⟨Em H ⟨hb.os,hb.tape,hb.output,hb.size,λk hk _=>hb.block k hk⟩,G.below hb G.lt⟩;rw [<-J] at Y Z C HE ⊢;have T:=AC C;obtain ⟨RW,N⟩:=xE (Cu (freed (D pb) i));rw [<-N] at HE ⊢;clear h hx hh hd E hf F J X L I H G M C hi N;unfold Ef at R O;rcases R with rfl|rfl
 ·go_enter func194,ntmps194
  go_wp2_with fail
  rw [<-AB T];refine a1.mono ?_;rintro e w2 ⟨rfl,U,V⟩;have a4:=AB O w2 U;have a2:=AC V;clear U V;have a3:∀W:World,(method 710 97 (qP cb 0) "Close").run prog W= .ok (473,qP cb 0) W:=λW=>kf
  go_wp2_with (first|(go_at_call 473;refine (AB a0 _).mono ?_;rintro e w3 ⟨rfl,rfl⟩))
  go_end0;exact ⟨rfl,AB HE _ a2⟩
 ·go_enter func194,ntmps194;go_wp2;go_end0;rw [<-AB T];exact ⟨rfl,AB HE _ (zw _ _)⟩
def IT (d:PD) (s:Int) (k:Nat):PD:={d with p:={d.p with st:=2,su:=s,PS:=[],F:=UK},xs:=RH d.xs k,m:=0,FR:=[]}
def em (d:PD) (s:Int):PD:={d with p:={d.p with st:=2,su:=s,PS:=[],F:=UK},xs:=GA,m:=0,FR:=[]}
def KE (d:PD):PD:={d with p:={d.p with par:=1}}
def Jc (K:List (Int×Nat)) (D:Nat->PD):Nat->PD:=λb=>if b∈K.map (·.2) then KE (D b) else D b
def FE (D:Nat->PD) (x:Int×Nat) (s:Int):Nat->PD:=upd D x.2 (em (D x.2) s)
def ended (D:Nat->PD) (PL:List (Int×Nat)) (x:Int×Nat) (s:Int):Nat->PD:=Jc (DM (λy=>(FE D x s y.2).p.par) x.1 PL) (FE D x s)
def oB (h:IS cb d.xs) (s:Int):IT d s 8=em d s:=by
 unfold IT em;rw [jQ h.1]
def Ut (d:PD) (s:Int) (k:Nat):freed (IT d s k) k=IT d s (k+1):=rfl
def jR (h:PDW cb d) (s:Int) (k:Nat):PDW cb (IT d s k):=⟨h.regs,⟨List.Pairwise.nil,λp hp=>absurd hp (by simp [IT])⟩,Lr h.fds k⟩
def ZZ (D:Nat->PD) (hy:K[k]? =some y):upd (Jc (K.take k) D) y.2 (KE (Jc (K.take k) D y.2))=Jc (K.take (k+1)) D:=by
 funext b;unfold upd Jc;rw [uw,hy,xj];obtain ⟨T,hT⟩:=xE ((K.take k).map (·.2));rw [<-hT];show _=if b∈T++[y.2] then KE (D b) else D b
 by_cases e:b=y.2
 ·subst e;rw [vu rfl,vu (show y.2∈T++[y.2] by simp)];by_cases e2:y.2∈T
  ·rw [vu e2];rfl
  ·rw [vz e2]
 ·rw [vz e];have hi:b∈T++[y.2]↔b∈T:=by simp [e]
  simp only [hi]
def Za (h:PDW cb d):PDW cb (KE d):=⟨h.regs,h.pages,h.fds⟩
def jS (kb pm n cb:Nat) (PL:List (Int×Nat)) (D:Nat->PD) (x:Int×Nat) (s:Int) (w:World) (h:XK w kb pm n cb PL D) (hx:x∈PL) (hn:PL.length<=1000) (a4:(D x.2).p.st≠1):
  cT 156 #[qP kb 0,qP x.2 0,iV s] w λe w'=>e= .returned (.tuple #[])/\XK w' kb pm n cb PL (ended D PL x s)/\At (PL.map (·.2)) w w':=by
 obtain ⟨hp,hd,C⟩:=h.each x hx;have hR:=hd.regs;have hS:=hd.space;obtain ⟨Z,hZ⟩:=xE Af;have a6:Z.length=65792:=by rw [hZ];exact CY
 have d9:∀v∈Z,v.oneCell'=true:=by rw [hZ,<-Kf];exact JF []
 have d7:=AC (show zeroCells186=Z.toArray from by rw [hZ];exact Qd);obtain ⟨pb,M⟩:=xE x.2;obtain ⟨d,Y⟩:=xE (D x.2);rw [<-Y,<-M] at hp;rw [<-Y] at hd a4 hR hS C;have c2:w.cell? (xK pb 65811)=some (iV d.p.st):=hp.cell (D4 hd 2 _ rfl);have c3:w.cell? (xK pb 65812)=some (iV d.p.su):=hp.cell (D4 hd 3 _ rfl);have f2:=hp.frozen 65811;have f3:=hp.frozen 65812;have hq:(d.p.st==1)=false:=sU a4;obtain ⟨W3,a0⟩:=xE ((w.setCell (xK pb 65811) (iV 2)).setCell (xK pb 65812) (iV s));have c9:w.grownBy W3 (some pb):=by rw [a0];exact AI (AI (zj w (some pb)) 65811 _) 65812 _
 have a5:AE W3 pb 193 (AX d.p.pc d.p.R (AW d.p.PS) d.p.pid d.p.par 2 s d.wk d.xs):=by
  have h1:=(hp.set 65811 (iV 2)).set 65812 (iV s);rw [<-a0] at h1;unfold Cu at h1;have e1:(AX d.p.pc d.p.R (AW d.p.PS) d.p.pid d.p.par d.p.st d.p.su d.wk d.xs).set 65811 (iV 2)=AX d.p.pc d.p.R (AW d.p.PS) d.p.pid d.p.par 2 d.p.su d.wk d.xs:=JO _ _ _ _ _ _ hR hS 2 _;have e2:(AX d.p.pc d.p.R (AW d.p.PS) d.p.pid d.p.par 2 d.p.su d.wk d.xs).set 65812 (iV s)=AX d.p.pc d.p.R (AW d.p.PS) d.p.pid d.p.par 2 s d.wk d.xs:=JO _ _ _ _ _ _ hR hS 3 _;rw [e1,e2] at h1;exact h1
 have I:17+Z.length<=(AX d.p.pc d.p.R (AW d.p.PS) d.p.pid d.p.par 2 s d.wk d.xs).length:=by
  unfold AX;rw [zm,Bj hR hS];omega
 obtain ⟨g6,V⟩:=xE (AX d.p.pc d.p.R (AW d.p.PS) d.p.pid d.p.par 2 s d.wk d.xs);have G:=RG (E:=d.p.pc) d.p.pid d.p.par 2 s d.wk d.xs hR (hS.trans a6.symm);rw [<-V] at a5 I G;have U:AX d.p.pc d.p.R Z d.p.pid d.p.par 2 s d.wk d.xs=Cu (IT d s 0):=by rw [hZ,<-Kf];rfl
 rw [U] at G;have a7:Hid (∀W k,w.grownBy W (some pb)->AE W pb 193 (Cu (IT d s k))->XK W kb pm n cb PL (upd D x.2 (IT d s k))):=λW k hg hh=>h.put hx (by rw [<-M];exact hg) (by rw [<-M];exact hh) (jR hd s k) C;have HD:=AC hd;have HX:=AC hx;have HN:=AC hn;have f6:=AC c9;have d4:=AC a5;have d5:=AC a0;have T:=AC I;have X:=AC G;have g3:=AC a6;have f7:=AC d9;have a8:=AC M;have f4:=AC Y;rw [<-M];clear h hx hn hp hd C hR hS c9 a5 a0 I G a6 d9 hZ a4 V U M Y;obtain ⟨h0,N⟩:=xE d.p.st;obtain ⟨h3,O⟩:=xE d.p.su;rw [<-N] at c2 hq;rw [<-O] at c3;clear N O;go_enter func156,ntmps156
 go_upto_region 4 with fail
 rw [<-AB d5];clear c2 c3 f2 f3 hq
 go_upto_region 5 with (refine Ec rfl 186 (.tmp 30) (.tmp 27) rfl pb 17 Z (by rfl) (by show Value.agg zeroCells186=Value.agg Z.toArray;rw [AB d7]) 193 g6 (AB d4) (by rw [Kh,AB g3]) (AB T) (AB f7) ?_;intro w6 H6 G6)
 rw [AB X] at H6;have f9:=AC H6;have f8:=AC (Em f6 G6);clear H6 G6 f6 d4 d5 T X d7 f7;go_wp2
 go_loopw [31] (λi wr=>∃k:Nat,k<=8/\i= iV k/\Hid (w.grownBy wr (some pb))/\Hid (AE wr pb 193 (Cu (IT d s k)))) (λi _=>8-(intOf i).toNat)
 case atStart=>exact ⟨0,om,rfl,f8,f9⟩
 case round=>
  obtain ⟨k,hk,rfl,HG,HR⟩:=hrel;have a2:=AB a7 wr k HG HR;by_cases d6:k<8
  ·have k1:(k:Int)<8:=om;have b2:=ek kb pm n cb PL _ x k wr d6 a2 HX;rw [Fx,Ut,<-AB a8] at b2;have c8:=AC b2;clear a2 b2
   go_wp2_with fail
   refine c8.mono ?_;rintro e w7 ⟨rfl,d3,d0⟩;have d2:=AC (xi (Em HG d3) d0);clear d3 d0 c8 HG HR;go_wp2;exact ⟨⟨k+1,om,sI,AC d2.1,AC d2.2⟩,by simp only [intOf];omega⟩
  ·have k1:¬(k:Int)<8:=om;obtain rfl:k=8:=om;have H:=a2;rw [AB f4,oB (cb:=cb) (by have:=HD.fds;rw [AB f4] at this;exact this)] at H;have F:XK wr kb pm n cb PL (FE D x s):=H;obtain ⟨D1,a9⟩:=xE (FE D x s);rw [<-a9] at F;obtain ⟨K,hK⟩:=xE (DM (λy=>(D1 y.2).p.par) x.1 PL);have b1:=F.children HN HX;rw [<-hK,<-AB a8] at b1;have c7:=AC b1;have c6:=AC F;have g9:K.length<=1000:=by rw [hK];have:=Q0 (λy=>(D1 y.2).p.par) x.1 PL;have:=AB HN;omega
   have g1:Hid (∀y∈K,y∈PL):=λy hy=>by rw [hK] at hy;exact (vk.1 hy).1
   have b5:=AC (show ended D PL x s=Jc K D1 by rw [hK,a9];rfl);clear a2 H F b1 d6 hK a9
   go_wp2_with fail
   refine c7.mono ?_;rintro e w7 ⟨v,rfl,J,b7⟩
   obtain ⟨a,c,rfl⟩:∃a c,v= .slice a K.length c:=by
    rcases J.2 with ⟨e,e2⟩|⟨g,h2,g8,e,_⟩
    ·exact ⟨none,0,by rw [e,e2]⟩
    ·exact ⟨_,_,e⟩
   have f1:=AC J;have g5:=AC (c6.below b7);have g0:Hid (At (PL.map (·.2)) w w7):=(At.of_grown (AB HG) (by rw [AB a8];exact ui (AB HX))).trans (At.of_below b7);have g2:Hid (∀y∈PL,y.2<wr.heap.size):=λy hy=>(c6.each y hy).1.lt;clear J b7 c7 HG HR;go_wp2
   go_loopw [43] (λi wx=>∃k:Nat,k<=K.length/\i= iV k/\Hid (XK wx kb pm n cb PL (Jc (K.take k) D1))/\Hid (At (PL.map (·.2)) w7 wx)) (λi _=>K.length-(intOf i).toNat)
   case atStart=>exact ⟨0,om,rfl,by rw [show Jc (K.take 0) D1=D1 from by funext b;simp [Jc]];exact g5,AC (At.refl _ _)⟩
   case round=>
    obtain ⟨j,hj,rfl,b9,b0⟩:=hrel;by_cases a3:j<K.length
    ·obtain ⟨y,hy⟩:∃y,K[j]? =some y:=⟨_,zz a3⟩;obtain ⟨g,c',he,g4,f5⟩:=f1.form om;injection he with he1 he2 he3;subst he1;subst he3;have a1:=AB g1 y (zv hy)
     have c4:g∉PL.map (·.2):=λhm=>by
      obtain ⟨z,hz,e⟩:=yt.1 hm;have:=AB g2 z hz;omega
     have s0:wr.cell? (xK g j)=some (qP y.2 0):=by
      have h1:=f1.cellAt j om;unfold EY at h1;rw [ze,hy] at h1;unfold World.cell? at h1 ⊢;rw [b0.block g f5 c4];exact h1
     have b3:=AB b9;obtain ⟨hh,hd,C⟩:=b3.each y a1;have c0:wr.cell? (xK y.2 65810)=some (iV _):=hh.cell (D4 hd 1 _ rfl);have f0:=hh.frozen 65810;have b6:wr.grownBy (wr.setCell (xK y.2 65810) (iV 1)) (some y.2):=AI (zj wr (some y.2)) 65810 _
     have c1:AE (wr.setCell (xK y.2 65810) (iV 1)) y.2 193 (Cu (KE (Jc (K.take j) D1 y.2))):=by
      have h1:=hh.set 65810 (iV 1);have e1:=RM hd 1 (iV 1);rw [show (65810:Nat)=65809+1 from rfl] at h1;rw [e1] at h1;exact h1
     have b4:=b3.put a1 b6 c1 (Za hd) C;rw [ZZ D1 hy] at b4;have d1:=AC b4;have c5:=AC (b0.trans (At.of_grown b6 (ui a1)));obtain ⟨yb,b8⟩:=xE y.2;rw [<-b8] at s0 c0 f0 d1 c5;obtain ⟨pr,d8⟩:=xE ((Jc (K.take j) D1 yb).p.par);rw [<-d8] at c0;have j0:(0:Int)<=(j:Int):=om;have j1:(j:Int)<(K.length:Int):=om;clear b6 c1 b4 hh hd C b3 a1 c4 hy g4 f5 b8 d8 he2;obtain ⟨L,hL⟩:=xE K.length;rw [<-hL] at j1 ⊢;have g7:=AC hL;clear hL a3;go_wp2;refine ⟨⟨j+1,o1 (AB g7),sI,d1,c5⟩,by simp only [intOf];omega⟩
    ·have j1:¬(j:Int)<(K.length:Int):=om;obtain rfl:j=K.length:=om;clear a3;go_wp2;go_end0;refine ⟨rfl,?_,g0.trans b0⟩;have:=AB b9;rw [uh] at this;rw [AB b5];exact this
def Br (a b:Int) (d:Value):Value:= .agg #[iV a,iV b,d]
def EJ (a b:Int) (d:Value) (c:Int):Ending:= .returned (.tuple #[Br a b d,if c=0 then .nilIface else .iface 40 (iV c)])
def Ey (c:Int):Ending:=EJ 0 0 sN c
def Cm {w0:World} {B:Nat} {a0 a1 a2 x y z:Value} (h:AE w b 140 [a0,a1,a2]) (hb:Below B w0 w) (hB:B<=b):(((w.setCell (xK b 0) x).setCell (xK b 1) y).setCell (xK b 2) z).cell? (xK b 0)=some x/\(((w.setCell (xK b 0) x).setCell (xK b 1) y).setCell (xK b 2) z).cell? (xK b 1)=some y/\(((w.setCell (xK b 0) x).setCell (xK b 1) y).setCell (xK b 2) z).cell? (xK b 2)=some z/\Below B w0 (((w.setCell (xK b 0) x).setCell (xK b 1) y).setCell (xK b 2) z):=by
 have h3:=((h.set 0 x).set 1 y).set 2 z;refine ⟨h3.cell rfl,h3.cell rfl,h3.cell rfl,?_⟩;exact ((hb.setCell (p:=(xK b 0)) hB _).setCell (p:=(xK b 1)) hB _).setCell (p:=(xK b 2)) hB _
def XK.grown (h:XK w kb pm n cb PL D) (hg:w.grownBy w' (some b)) (h1:kb≠b) (h2:pm≠b) (h3:∀x∈PL,x.2≠b):XK w' kb pm n cb PL D:=
 ⟨hg.cell h.k9 (sU h1),hg.cell h.k6 (sU h1),yz h.kl hg.size,h.map.kept hg (sU h2),λx hx=>⟨(h.each x hx).1.grown hg (sU (h3 x hx)),(h.each x hx).2⟩,h.apart,h.one,h.kpm⟩
def XK.del (h:XK w kb pm n cb PL D) (k:Int) (hk: -1000000<=k/\k<=1000000) (ty:TypeId):
  ∃w',(Builtin.delete_ #[104,3] ty #[.map (some pm),iV k]).run prog w= .ok (.tuple #[]) w'/\XK w' kb pm n cb (PL.filter (λy=>y.1 !=k)) D/\w.grownBy w' (some pm):=by
 obtain ⟨w',hr,hm,hg⟩:=h.map.del k hk ty;refine ⟨w',hr,⟨hg.cell h.k9 (sU h.kpm),hg.cell h.k6 (sU h.kpm),yz h.kl hg.size,hm,λx hx=> ?_,λx hx=>h.apart x (vk.1 hx).1,λx hx y hy=>h.one x (vk.1 hx).1 y (vk.1 hy).1,h.kpm⟩,hg⟩;have C:=(vk.1 hx).1;exact ⟨(h.each x C).1.grown hg (by have:=(h.apart x C).2;simpa using this),(h.each x C).2⟩
def XL {P:Program} {ops:Array Oper} {o:Oper} {a:Act} {K:Act->World->Prop} {Q:Exit->Act->World->Prop} {E:Prop} (G:o.guard=none) (t u:Nat) (ts:Array TypeId) (ho:o.op= .call {callee:= .builtin .delete,args:=#[.tmp t,.tmp u],argTypes:=ts}) (v x:Value) (hv:a.eval (.tmp t)=v) (hx:a.eval (.tmp u)=x) (r:Value) (w':World) (C:(Builtin.delete_ ts o.type #[v,x]).run P w= .ok r w') (d:Option Tmp) (hd:o.dst=d) (h:K (a.put d r) w'):
  if Region.wanted o (yielded ops a.tmps)=true then Oper.wp P o a w K Q else E:=by
 have hw:Region.wanted o (yielded ops a.tmps)=true:=by simp [Region.wanted,G]
 have H:a.tmps[t]?.getD undef=v:=by rw [<-hv];simp [go_sem]
 have F:a.tmps[u]?.getD undef=x:=by rw [<-hx];simp [go_sem]
 rw [vu hw];subst hd;unfold Oper.wp;simp [execOp,ho,H,F,invoke,resolve,go_sem,C,Result.andThen];simpa [go_sem] using h
def Nl (d:cE w kb 9 (.map (some pm))):(Instr.loadAt 104 (qP kb 9)).run prog w= .ok (.map (some pm)) w:=gS
def Hk {o:Nat} {v:Int} (d:cE w b o (iV v)):(Instr.loadAt 3 (qP b o)).run prog w= .ok (iV v) w:=gS
def Uu:(prog.info? 140).map (·.size)=some 3:=kf
def ep (a b:Int) (w:World):(Instr.build 140 #[(0,iV a),(1,iV b)]).run prog w= .ok (Br a b sN) w:=kf
def Ls (D:Nat->PD) (K:List (Int×Nat)):Option (Int×Nat):=K.find? (λy=>(D y.2).p.st==2)
def XM (h:∀(j:Nat) (y:Int×Nat),K[j]? =some y->(D y.2).p.st≠2):Ls D K=none:=by
 unfold Ls;rw [xm];intro y hy;obtain ⟨j,hj⟩:=yj.1 hy;simpa using h j y hj
def XQ (hy:K[k]? =some y) (hz:(D y.2).p.st=2) (h:∀(j:Nat) (z:Int×Nat),j<k->K[j]? =some z->(D z.2).p.st≠2):Ls D K=some y:=by
 unfold Ls;rw [tm];obtain ⟨hk,e⟩:=zy.1 hy;refine ⟨by simpa using hz,k,hk,e,λj hj=> ?_⟩;have:=h j K[j] hj (zz om);simpa using this
def XT (kb pm n cb:Nat) (PL:List (Int×Nat)) (D:Nat->PD) (x:Int×Nat) (w:World) (e:Ending) (w':World):Prop:=
 (DM (λy=>(D y.2).p.par) x.1 PL=[]/\e=Ey 17/\Bw w w')\/
 (DM (λy=>(D y.2).p.par) x.1 PL≠[]/\Ls D (DM (λy=>(D y.2).p.par) x.1 PL)=none/\e=Ey 16/\Bw w w')\/
 (∃z,Ls D (DM (λy=>(D y.2).p.par) x.1 PL)=some z/\e=EJ z.1 (D z.2).p.su sN 0/\XK w' kb pm n cb (PL.filter (λy=>y.1 !=z.1)) D/\At [pm] w w')
def er (kb pm n cb:Nat) (PL:List (Int×Nat)) (D:Nat->PD) (x:Int×Nat) (c0 c1 c2 c3 c4 c5:Value) (w:World) (h:XK w kb pm n cb PL D) (hx:x∈PL) (hn:PL.length<=1000):
  cT 226 #[qP kb 0,qP x.2 0,.agg #[c0,c1,c2,c3,c4,c5]] w (XT kb pm n cb PL D x w):=by
 obtain ⟨W2,a2⟩:=xE ((w.alloc (Obj.cells #[c0,c1,c2,c3,c4,c5] 51)).alloc (Obj.cells #[iV 0,iV 0,sN] 140));have a9:Bw w W2:=by rw [a2];exact bA.alloc sI _
 have b5:AE W2 (w.heap.size+1) 140 [iV 0,iV 0,sN]:=by
  have:=AE.new (w.alloc (Obj.cells #[c0,c1,c2,c3,c4,c5] 51)) 140 [iV 0,iV 0,sN];rw [a2];simpa using this
 have a5:=h.below a9;have a1:=AC (a5.children hn hx);obtain ⟨pb,b4⟩:=xE x.2;obtain ⟨K,hK⟩:=xE (DM (λy=>(D y.2).p.par) x.1 PL);obtain ⟨L,hL⟩:=xE K.length;obtain ⟨QQ,b3⟩:=xE (XT kb pm n cb PL D x w);rw [<-hK,<-hL] at a1;rw [<-b4] at a1 ⊢;rw [<-b3];obtain ⟨b6,a8,a6,b8,HK,HL,HQ⟩:=H7 a2 a9 b5 a5 hK hL b3;have d7:Hid (∀y∈K,y∈PL):=λy hy=>by rw [hK] at hy;exact (vk.1 hy).1
 have g6:L<=1000:=by rw [hL,hK];have:=Q0 (λy=>(D y.2).p.par) x.1 PL;omega
 have b9:=AC h.map.lt;have a0:=AC (show kb<w.heap.size/\∀y∈PL,y.2<w.heap.size from ⟨h.kl,λy hy=>(h.each y hy).1.lt⟩);clear h hx hn a2 a9 b5 a5 b4 hK hL b3;go_enter func226,ntmps226
 go_wp2_with fail
 rw [<-AB b6];refine a1.mono ?_;rintro e w7 ⟨v,rfl,I,a3⟩
 obtain ⟨a,c,rfl⟩:∃a c,v= .slice a L c:=by
  rcases I.2 with ⟨e,e2⟩|⟨g,g7,g4,e,_⟩
  ·exact ⟨none,0,by rw [e,e2]⟩
  ·exact ⟨_,_,e⟩
 have c6:=AC I;have E:=a6.below a3 a6.lt;have a7:=AC E;have U:=a8.trans (a3.mono a8.size);have b1:=AC U;have J:=AC (b8.below a3);have d0:=E.cell (j:=0) rfl;have d1:=E.cell (j:=1) rfl;have d2:=E.cell (j:=2) rfl;have f0:=E.frozen 0;have f1:=E.frozen 1;have f2:=E.frozen 2;clear I a3 E U a1 a8 a6 b8 b6;by_cases d8:L=0
 ·subst d8;obtain ⟨r0,r1,r2,rb⟩:=Cm (x:= iV 0) (y:= iV 0) (z:= sN) a7 b1 (Nat.le_succ _);have a4:=AC rb;clear rb;go_wp2;refine xh (v:= .tuple #[Br 0 0 sN,.iface 40 (iV 17)]) (by simp [results,results226,go_sem,Br,r0,r1,r2]) rfl ?_;rw [AB HQ];refine .inl ⟨?_,rfl,AB a4⟩;rw [<-AB HK];exact uz HL.symm
 ·have g5:¬((L:Int)=0):=om;go_wp2
  go_loopw [21] (λi wi=>∃k:Nat,k<=L/\i= iV k/\wi=w7/\Hid (∀(j:Nat) (z:Int×Nat),j<k->K[j]? =some z->(D z.2).p.st≠2)) (λi _=>L-(intOf i).toNat)
  case atStart=>exact ⟨0,om,rfl,rfl,AC (λj z hj=>om)⟩
  case round=>
   obtain ⟨k,hk,rfl,rfl,HN⟩:=hrel;by_cases f9:k<L
   ·obtain ⟨y,hy⟩:∃y,K[k]? =some y:=⟨_,zz (o1 (AB HL))⟩;obtain ⟨g,c',he,f3,g1⟩:=c6.form om;injection he with he1 he2 he3;subst he1;subst he3;have V:=AB d7 y (zv hy)
    have s0:wr.cell? (xK g k)=some (qP y.2 0):=by
     have h1:=c6.cellAt k om;unfold EY at h1;rw [ze,hy] at h1;exact h1
    obtain ⟨hh,hd,O⟩:=J.each y V;have p0:wr.cell? (xK y.2 65809)=some (iV y.1):=by rw [<-O];exact hh.cell (D4 hd 0 _ rfl)
    have p2:wr.cell? (xK y.2 65811)=some (iV (D y.2).p.st):=hh.cell (D4 hd 2 _ rfl);have p3:wr.cell? (xK y.2 65812)=some (iV (D y.2).p.su):=hh.cell (D4 hd 3 _ rfl);have k9:=J.k9;obtain ⟨f6,F⟩:=xE ((D y.2).p.st);obtain ⟨C,H⟩:=xE ((D y.2).p.su);rw [<-F] at p2;rw [<-H] at p3;have d5:=J.map.2.2.1 y V;have f8:=AC d5;have G:=AC (show kb<w.heap.size/\y.2<w.heap.size from ⟨a0.1,a0.2 y V⟩);have g0:=AC (J.apart y V);obtain ⟨yp,yb⟩:=y;obtain ⟨d6,f4,HY⟩:=H3 F H hy;have k0:(0:Int)<=(k:Int):=om;have k1:(k:Int)<(L:Int):=om;simp only at s0 p0 p2 p3;clear d5 hh hd O V f3 g1 he2 hy F H;by_cases h2:f6=2
    ·subst h2;have HP:=AC (xi k9 (xi p0 p3));clear k9 p0 p3
     go_upto_region 8 with fail
     obtain ⟨w8,R,c8,M⟩:=(J.below (show Bw wr wr.drew from (zw _ _).drew)).del yp (o1 (AB f8)) 0;have d9:=J.kpm;have d3:yb≠pm:=g0.2;have b7:AE w8 (w.heap.size+1) 140 [iV 0,iV 0,sN]:=(a7.heap (W':=wr.drew) rfl).grown M (by have:=AB b9;simp;omega);have N:At [pm] w w8:=(At.of_below b1).trans ((At.of_below (show Bw wr wr.drew from (zw _ _).drew)).trans (At.of_grown M sI));have Y:=AC (show cE w8 kb 9 (.map (some pm))/\cE w8 yb 65809 (iV yp)/\cE w8 yb 65812 (iV C) from ⟨M.cell HP.1 (sU d9),M.cell HP.2.1 (sU d3),M.cell HP.2.2 (sU d3)⟩)
     have R1:=AC (show ∀w':World,(w'.cell? (xK kb 9)=some (.map (some pm))/\w'.cell? (xK yb 65809)=some (iV yp)/\w'.cell? (xK yb 65812)=some (iV C))->(Instr.loadAt 104 (qP kb 9)).run prog w'= .ok (.map (some pm)) w' from λw' h=>by
      exact Nl h.1)
     have R2:=AC (show ∀w':World,(w'.cell? (xK kb 9)=some (.map (some pm))/\w'.cell? (xK yb 65809)=some (iV yp)/\w'.cell? (xK yb 65812)=some (iV C))->(Instr.loadAt 3 (qP yb 65809)).run prog w'= .ok (iV yp) w' from λw' h=>by
      exact Hk h.2.1)
     have R3:=AC (show ∀w':World,(w'.cell? (xK kb 9)=some (.map (some pm))/\w'.cell? (xK yb 65809)=some (iV yp)/\w'.cell? (xK yb 65812)=some (iV C))->(Instr.loadAt 3 (qP yb 65812)).run prog w'= .ok (iV C) w' from λw' h=>by
      exact Hk h.2.2)
     obtain ⟨Z,f5,g3,b2⟩:=H4 R c8 b7 N;clear R c8 M b7 N d0 d1 d2 f0 f1 f2 s0 p2;refine Ak ?_;intro A hA;have e0:A.eval (.tmp 0)= qP kb 0:=eH hA;have b0:A.eval (.tmp 10)= qP yb 0:=eH hA;have X:A.tmps.size=50:=eZ hA;have HA:=AC hA;clear hA;refine xf (S:=λw'=>w'.cell? (xK kb 9)=some (.map (some pm))/\w'.cell? (xK yb 65809)=some (iV yp)/\w'.cell? (xK yb 65812)=some (iV C)) kf HP (λhS=> ?_);refine tq 0 30 rfl (yM (qP kb 0)) hS (tq 1 31 rfl (yN (xK kb 0)) hS (tq 2 32 rfl (yF (qP kb 0) (qP kb 9)) hS (tq 3 33 rfl (yl R1) hS (tq 4 34 rfl (yM (qP yb 0)) hS (tq 5 35 rfl (yN (xK yb 0)) hS ?_)))))
     refine tq 6 36 rfl (yF (qP yb 0) (qP yb 65809)) hS (tq 7 37 rfl (yl R2) hS ?_);refine rdy [8] kf (vq rfl (λK hK=> ?_) vr);refine XL rfl 33 37 _ rfl (.map (some pm)) (iV yp) sE sE (.tuple #[]) w8 Z none rfl ?_;refine hK.out _ _ Y (λg2=> ?_);clear hK K;refine vg kf ?_ _;rw [AB HA];simp only [Act.put,zl,zh,zi];clear hS g2 HA e0 b0 X A Z HP
     go_upto_region 9 with fail
     refine Ak ?_;intro A hA;have e6:A.eval (.tmp 6)= qP (w.heap.size+1) 0:=eH hA;have b0:A.eval (.tmp 10)= qP yb 0:=eH hA;have X:A.tmps.size=50:=eZ hA;have HA:=AC hA;clear hA;refine xf (S:=λw'=>w'.cell? (xK kb 9)=some (.map (some pm))/\w'.cell? (xK yb 65809)=some (iV yp)/\w'.cell? (xK yb 65812)=some (iV C)) kf Y (λhS=> ?_);refine tq 0 38 rfl (yM (qP yb 0)) hS (tq 1 39 rfl (yN (xK yb 0)) hS (tq 2 40 rfl (yF (qP yb 0) (qP yb 65809)) hS (tq 3 41 rfl (yl R2) hS (tq 4 42 rfl (yM (qP yb 0)) hS (tq 5 43 rfl (yN (xK yb 0)) hS ?_)))));refine tq 6 44 rfl (yF (qP yb 0) (qP yb 65812)) hS (tq 7 45 rfl (yl R3) hS ?_)
     refine tq 8 46 rfl (EF rfl _ _ rfl #[(0,iV yp),(1,iV C)] sE (Br yp C sN) (λw'=>ep _ _ w')) hS ?_;refine rdy [9] kf (CZ rfl rfl 140 (.tmp 6) (.tmp 46) rfl (w.heap.size+1) 0 [iV yp,iV C,sN] sE (by simp [Ae,AU,X,Br]) 140 [iV 0,iV 0,sN] (g3.heap rfl) Uu (zx 3) (by intro v hv;simp only [vp,uu,or_false] at hv;rcases hv with rfl|rfl|rfl<;>rfl) rfl (λw9 H9 G9=>⟨⟨G9.cell Y.1 (by have:=AB G;simp;omega),G9.cell Y.2.1 (by have:=AB G;simp;omega),G9.cell Y.2.2 (by have:=AB G;simp;omega)⟩,λd4=> ?_⟩) vr);refine tq 10 7 rfl (EV rfl _ rfl .nilIface (by simp [Ae,AU,X,go_sem])) d4 ?_;refine vg kf ?_ _;rw [AB HA];simp only [Act.put,zl,zh,zi];have h9:AE w9 (w.heap.size+1) 140 [iV yp,iV C,sN]:=AB H9
     have r0:=h9.cell (j:=0) rfl;have r1:=h9.cell (j:=1) rfl;have r2:=h9.cell (j:=2) rfl;have c7:=(f5.below (show Bw w8 w8.drew from (zw _ _).drew)).grown G9 (o1 (AB a0)) (o1 (AB b9)) (λz hz=>o1 (a0.2 z (vk.1 hz).1))
     have c9:At [pm] w w9:=by
      have h1:=AB b2;have h2:=AB G9;refine ⟨h2.os.trans h1.os,h2.tape.trans h1.tape,h2.output.trans h1.output,zg h1.size h2.size,λk hk hn=> ?_⟩;exact (h2.block k (yz hk h1.size) sO).trans (h1.block k hk hn)
     have T:=AC (xi c7 c9);clear h9 c7 c9 H9 G9 hS d4 HA e6 b0 X A;go_wp2;refine xh (v:= .tuple #[Br yp C sN,.nilIface]) (by simp [results,results226,go_sem,Br,r0,r1,r2]) rfl ?_;rw [AB HQ];refine .inr (.inr ⟨(yp,yb),?_,?_,T.1,T.2⟩)
     ·rw [<-AB HK];exact XQ HY d6.symm (λj z hj hz=>AB HN j z hj hz)
     ·rw [AB f4];rfl
    ·have f7:=AC (show ∀(j:Nat) (z:Int×Nat),j<k+1->K[j]? =some z->(D z.2).p.st≠2 from λj z hj hz=>by
      by_cases e:j=k
      ·subst e;rw [AB HY] at hz;obtain rfl:=zr hz;rw [<-AB d6];exact h2
      ·exact AB HN j z om hz)
     go_wp2;exact ⟨⟨k+1,om,sI,trivial,f7⟩,by simp only [intOf];omega⟩
   ·have k1:¬(k:Int)<(L:Int):=om;obtain rfl:k=L:=om;obtain ⟨r0,r1,r2,rb⟩:=Cm (x:= iV 0) (y:= iV 0) (z:= sN) a7 b1 (Nat.le_succ _);have a4:=AC rb;clear rb f9;go_wp2;refine xh (v:= .tuple #[Br 0 0 sN,.iface 40 (iV 16)]) (by simp [results,results226,go_sem,Br,r0,r1,r2]) rfl ?_;rw [AB HQ];refine .inr (.inl ⟨?_,?_,rfl,AB a4⟩)
    ·rw [<-AB HK];intro e;have:=AB HL;rw [e] at this;simp at this;omega
    ·rw [<-AB HK];refine XM (λj y hj=>AB HN j y ?_ hj);have:=(zy.1 hj).1;have:=AB HL;omega
def XU (kb pm n cb:Nat) (PL:List (Int×Nat)) (D:Nat->PD) (x:Int×Nat) (a:Int) (w:World) (e:Ending) (w':World):Prop:=
 (x.1=1/\e=Ey 18/\Bw w w')\/
 (x.1≠1/\e=Ey 0/\XK w' kb pm n cb PL (ended D PL x (a%256))/\At (PL.map (·.2)) w w')
def DO (w:World) (c0 c1 c2 c3 c4 c5:Value):AE ((w.alloc (Obj.cells #[c0,c1,c2,c3,c4,c5] 51)).alloc (Obj.cells #[iV 0,iV 0,sN] 140)) (w.heap.size+1) 140 [iV 0,iV 0,sN]/\AE ((w.alloc (Obj.cells #[c0,c1,c2,c3,c4,c5] 51)).alloc (Obj.cells #[iV 0,iV 0,sN] 140)) w.heap.size 51 [c0,c1,c2,c3,c4,c5]/\Bw w ((w.alloc (Obj.cells #[c0,c1,c2,c3,c4,c5] 51)).alloc (Obj.cells #[iV 0,iV 0,sN] 140)):=by
 refine ⟨?_,(AE.new w 51 [c0,c1,c2,c3,c4,c5]).alloc _,bA.alloc sI _⟩;have:=AE.new (w.alloc (Obj.cells #[c0,c1,c2,c3,c4,c5] 51)) 140 [iV 0,iV 0,sN];simpa using this
def At.tail {w1 w2:World} (h:At B w w1) (hg:w1.grownBy w2 (some b)) (hb:w.heap.size<=b):At B w w2:=
 ⟨hg.os.trans h.os,hg.tape.trans h.tape,hg.output.trans h.output,zg h.size hg.size,λk hk hn=>(hg.block k (yz hk h.size) (λe=>by simp at e;omega)).trans (h.block k hk hn)⟩
def FG (x y z:Value):w.grownBy (((w.setCell (xK b 0) x).setCell (xK b 1) y).setCell (xK b 2) z) (some b):=AI (AI (AI (zj w (some b)) 0 x) 1 y) 2 z
def eu (kb pm n cb:Nat) (PL:List (Int×Nat)) (D:Nat->PD) (x:Int×Nat) (c0:Value) (ca:Int) (c2 c3 c4 c5:Value) (w:World) (h:XK w kb pm n cb PL D) (hx:x∈PL) (hn:PL.length<=1000) (U:(D x.2).p.st≠1):
  cT 225 #[qP kb 0,qP x.2 0,.agg #[c0,iV ca,c2,c3,c4,c5]] w (XU kb pm n cb PL D x ca w):=by
 obtain ⟨C,M,H⟩:=DO w c0 (iV ca) c2 c3 c4 c5;obtain ⟨W2,I⟩:=xE ((w.alloc (Obj.cells #[c0,iV ca,c2,c3,c4,c5] 51)).alloc (Obj.cells #[iV 0,iV 0,sN] 140));rw [<-I] at C M H;have J:=h.below H;have R:∀y∈PL,y.2<w.heap.size:=λy hy=>(h.each y hy).1.lt;have F:=jS kb pm n cb PL D x (ca%256) W2 J hx hn U;obtain ⟨hh,hd,G⟩:=J.each x hx;have p0:W2.cell? (xK x.2 65809)=some (iV x.1):=by rw [<-G];exact hh.cell (D4 hd 0 _ rfl)
 have a1:cE W2 w.heap.size 1 (iV ca):=M.cell rfl;have d0:=C.cell (j:=0) rfl;have d1:=C.cell (j:=1) rfl;have d2:=C.cell (j:=2) rfl;have f0:=C.frozen 0;have f1:=C.frozen 1;have f2:=C.frozen 2;obtain ⟨QQ,N⟩:=xE (XU kb pm n cb PL D x ca w);rw [<-N];obtain ⟨HQ,HE,X,Z,V,Y⟩:=H6 N F I H C R;have a3:=AC h.map.lt;have a2:=AC h.kl;obtain ⟨xp,xb⟩:=x;simp only at p0 HE ⊢;clear h hx hn U I C M H J R F hh hd G N;by_cases h1:xp=1
 ·subst h1;obtain ⟨r0,r1,r2,rb⟩:=Cm (x:= iV 0) (y:= iV 0) (z:= sN) V Z (Nat.le_succ _);have a0:=AC rb;clear rb;go_enter func225,ntmps225
  go_upto_region 1 with fail
  rw [<-AB X];go_wp2;refine xh (v:= .tuple #[Br 0 0 sN,.iface 40 (iV 18)]) (by simp [results,results225,go_sem,Br,r0,r1,r2]) rfl ?_;rw [AB HQ];exact .inl ⟨rfl,rfl,AB a0⟩
 ·go_enter func225,ntmps225
  go_upto_region 1 with fail
  rw [<-AB X]
  go_wp2_with fail
  refine HE.mono ?_;rintro e w3 ⟨rfl,O,L⟩
  have T:w.heap.size+1∉PL.map (·.2):=λhm=>by
   obtain ⟨z,hz,e⟩:=yt.1 hm;have:=AB Y z hz;omega
  have E:=L.holds V T;obtain ⟨r0,r1,r2,_⟩:=Cm (x:= iV 0) (y:= iV 0) (z:= sN) E (zw 0 w3) (Nat.zero_le _);have d0:=E.cell (j:=0) rfl;have d1:=E.cell (j:=1) rfl;have d2:=E.cell (j:=2) rfl;have f0:=E.frozen 0;have f1:=E.frozen 1;have f2:=E.frozen 2;have hg:=FG (w:=w3) (b:=w.heap.size+1) (iV 0) (iV 0) sN;have HF:=AC (xi (O.grown hg (o1 (AB a2)) (o1 (AB a3)) (λz hz=>o1 (AB Y z hz))) (((At.of_below Z).trans L).tail hg (Nat.le_succ _)));clear hg E O L T p0 a1 HE;go_wp2;refine xh (v:= .tuple #[Br 0 0 sN,.nilIface]) (by simp [results,results225,go_sem,Br,r0,r1,r2]) rfl ?_;rw [AB HQ];exact .inr ⟨h1,rfl,HF.1,HF.2⟩
def Lt:∀(a b:List Int),a.Nodup->(∀x∈a,x∈b)->a.length<=b.length
 |[],b,_,_=>sI
 |x::a,b,hn,hs=>by
  have hx:x∈b:=hs x sI;have C:=List.nodup_cons.1 hn;have ih:=Lt a (b.erase x) C.2 (λy hy=>(List.mem_erase_of_ne (λe=>C.1 (by rw [<-e];exact hy))).2 (hs y (by simp [hy])));rw [List.length_erase_of_mem hx] at ih;have:=rl hx;simp only [um];omega
def RN {k:Int} (h:Bg PL k≠none):k∈PL.map (·.1):=by
 unfold Bg at h
 cases hf:PL.find? (λx=>x.1==k) with
 |none=>rw [hf] at h;exact absurd rfl h
 |some y=>
  have h1:=qz hf;have h2:=yk hf;simp at h1;rw [<-h1];exact ui h2
def XV (h:∀j:Nat,1<=j->j<k->Bg PL (j:Int)≠none):k<=PL.length+1:=by
 have:=Lt ((List.range (k-1)).map (λj=>((j+1:Nat):Int))) (PL.map (·.1)) (by
  refine List.Pairwise.map _ (λa b C e=>C ?_) List.nodup_range;omega) (λx hx=>by
  obtain ⟨j,hj,rfl⟩:=yt.1 hx;rw [zf] at hj
  exact RN (h (j+1) om om))
 rw [zc,tx,zc] at this;omega
def Zb (kp kb pm n:Nat) (PL:List (Int×Nat)) (k:Int) (w:World) (hk:cE w kp 0 (qP kb 0)) (k9:cE w kb 9 (.map (some pm))) (hm:AZ w pm n PL) (hb:0<=k/\k<=1000000):
  cT 291 #[iV k,qP kp 0] w λe w'=>e= .returned (BF (Bg PL k))/\w'=w:=by
 have E:=hm.look k om;clear hm;obtain ⟨nd,C⟩:=xE (BF (Bg PL k));rw [<-C] at E ⊢;clear C;go_enter func291,ntmps291;go_wp2;go_ret;exact ⟨rfl,rfl⟩
def XX:eN 291:=enters_of func291 kf rfl
structure Uv (PL:List (Int×Nat)) (k:Nat):Prop where
 pos:1<=k
 free:Bg PL (k:Int)=none
 used:∀j:Nat,1<=j->j<k->Bg PL (j:Int)≠none
def Sf (kp kb pm n:Nat) (PL:List (Int×Nat)) (w:World) (hk:cE w kp 0 (qP kb 0)) (k9:cE w kb 9 (.map (some pm))) (hm:AZ w pm n PL) (hn:PL.length<=1000):
  cT 290 #[iV 1,.func (.func 291) #[] #[qP kp 0]] w λe w'=>(∃k:Nat,Uv PL k/\e= .returned (iV k))/\w'=w:=by
 have C:=AC (λ(k:Int) (hb:0<=k/\k<=1000000)=>Zb kp kb pm n PL k w hk k9 hm hb);have HN:=AC hn;have I:=XX;clear hm hk k9 hn;go_enter func290,ntmps290;go_wp2
 go_loopw [0] (λi wr=>∃k:Nat,1<=k/\k<=1001/\i= iV k/\wr=w/\Hid (∀j:Nat,1<=j->j<k->Bg PL (j:Int)≠none)) (λi _=>1001-(intOf i).toNat)
 case atStart=>exact ⟨1,om,om,rfl,rfl,AC (λj h1 h2=>om)⟩
 case round=>
  obtain ⟨k,F,H,rfl,rfl,HU⟩:=hrel;have HA:=AC (AB C k om);clear C
  cases hw:Bg PL (k:Int) with
  |none=>
   have HW:=AC hw;rw [hw] at HA;clear hw;unfold BF at HA
   go_wp2_with (refine HA.mono ?_;rintro e w1 ⟨rfl,rfl⟩)
   go_ret
   exact ⟨⟨k,⟨F,AB HW,AB HU⟩,rfl⟩,rfl⟩
  |some b=>
   have E:=AC (show ∀j:Nat,1<=j->j<k+1->Bg PL (j:Int)≠none from λj h1 h2=>by
    by_cases e:j=k
    ·subst e;rw [hw];simp
    ·exact AB HU j h1 om)
   have G:=XV E;have J:k+1<=1001:=o1 (AB HN);rw [hw] at HA;clear hw G;unfold BF at HA
   go_wp2_with (refine HA.mono ?_;rintro e w1 ⟨rfl,rfl⟩)
   exact ⟨⟨k+1,om,om,sI,trivial,E⟩,by simp only [intOf];omega⟩
def Gi (kb pm n:Nat) (lf:Int) (PL:List (Int×Nat)) (ln:Int×Nat->Nat) (w:World) (F:cE w kb 1 (iV lf)) (G:cE w kb 9 (.map (some pm))) (hm:AZ w pm n PL) (hp:JN w PL ln) (hn:(PL.map ln).sum<=1000000) (R:0<=lf/\lf<=1000000):
  cT 74 #[qP kb 0] w λe w'=>e= .returned (iV (lf-((PL.map ln).sum:Int)))/\Bw w w':=by
 have L:Bw w w.drew:=⟨rfl,rfl,rfl,zx _,λ_ _=>rfl⟩;have I:=AC (Om kb pm n PL ln w.drew G (hm.kept (BE L) sI) (hp.below L) hn);have O:kb<w.heap.size:=zu w _ F;obtain ⟨NS,M⟩:=xE ((PL.map ln).sum);rw [<-M] at I hn ⊢;have H:=F
 have R1:=AC (show ∀w':World,w'.cell? (xK kb 1)=some (iV lf)->(Instr.loadAt 3 (qP kb 1)).run prog w'= .ok (iV lf) w' from λw' h=>by
  clear H F G hm hp
  go_simp)
 have N:=AC H;have X: -9223372036854775808<=lf-(NS:Int):=om;have V:lf-(NS:Int)<=9223372036854775807:=om
 have R2:=AC (show ∀w':World,((do eqGuard .sub 3 (.tmp 7) (.tmp 9) (iV lf) (iV (NS:Nat));binOp .sub 3 (iV lf) (iV (NS:Nat)):Sem Value)).run prog w'= .ok (iV (lf-(NS:Int))) w' from λw'=>by
  clear H F G hm hp;go_simp;rw [yg]
  omega)
 clear F G hm hp H L hn R M;go_enter func74,ntmps74
 go_upto_region 1 with fail
 refine Ak ?_;intro A hA;have e0:A.eval (.tmp 0)= qP kb 0:=eH hA;have U:A.tmps.size=11:=eZ hA;have HA:=AC hA;clear hA;refine xf (S:=λw'=>w'.cell? (xK kb 1)=some (iV lf)) kf N (λhS=> ?_);refine tq 0 3 rfl (yM (qP kb 0)) hS (tq 1 4 rfl (yN (xK kb 0)) hS (tq 2 5 rfl (yF (qP kb 0) (qP kb 0)) hS (tq 3 6 rfl (yF (qP kb 0) (qP kb 1)) hS (tq 4 7 rfl (yl R1) hS (tq 5 8 rfl (yM (qP kb 0)) hS ?_)))));refine rdy [6] kf (vq rfl (λK hK=> ?_) vr);refine DH rfl 132 8 _ rfl (qP kb 0) sE J4 _ (iV (NS:Nat)) (λe w' h=>h.1) I (some 9) rfl ?_;rintro w2 ⟨_,E⟩;have C:Bw w w2:=⟨E.os,E.tape,E.output,E.size,E.block⟩
 refine hK.out _ _ (by rw [C.cell (p:=(xK kb 1)) O];exact AB N) (λJ=> ?_);clear hK K;refine tq 7 10 rfl (yB (iV lf) (iV (NS:Nat)) (iV (lf-(NS:Int))) R2) J ?_;refine tq 8 2 rfl (yA (iV (lf-(NS:Int)))) J ?_;refine vg kf ?_ _;have T:=AC C;rw [AB HA];simp only [Act.put,zl,zh,zi];clear E C hS J HA e0 U R1 R2 I;go_wp2;go_ret;exact ⟨rfl,AB T⟩
end Go.Proofs.YtpcjkidgohpeoaaGreatDoor
