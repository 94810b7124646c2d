import Derived.Test.YtpcjkidgohpeoaaGreatDoorG15
import Derived.Lib.AppendZeros
import Derived.Lib.AppendZerosOnto
set_option maxRecDepth 100000
set_option maxHeartbeats 1000000
set_option linter.all false
namespace Go.Proofs.YtpcjkidgohpeoaaGreatDoor
open RowKit Maps Proofs.Tryz
variable {w w':World} {B tb ab am m i b:Nat} {li lb on:Int} {pth:ByteArray} {v v' mv:Value} {c:List Int} {p:PK} {NB MB S:List Nat} {V:List Value} {x:Ino} {oc:Int->Int}
def Bf.empty (ht:AE w tb 173 [qP ab 0,iV 0,iV li,iV 0,iV lb]) (ha:AE w ab 257 [.string ⟨#[]⟩,.bool true,sN,.map (some am),iV 0]) (hd:Aq w am 0 (λ_=>none)) (h1:B<=tb) (h2:B<=ab) (h3:B<=am):Bf w B tb ab am li lb 0 [] [] [] [] oc:=by
 refine ⟨by simpa using ht,ha,(hd.mono om).same λs=> ?_,sI,λi x b m hx=>by simp at hx,λh=>absurd rfl h,rfl,sI,h1,h2,h3,sI,sI⟩;split<;>rfl
def Bf.rooted {nb nm:Nat} (ht:AE w tb 173 [qP ab 0,iV 1,iV li,iV 0,iV lb]) (ha:AE w ab 257 [.string ⟨#[]⟩,.bool true,sN,.map (some am),iV 0])
  (hd:Aq w am 1 (λs=>if s.data.toList=[] then some nb else none)) (hn:∃q,AE w nb 257 [.string q,.bool true,sN,.map (some nm),iV 0]/\q.size≠0) (hk:Aq w nm 0 (λ_=>none)) (h1:B<=tb) (h2:B<=ab) (h3:B<=am) (h4:B<=nb) (h5:B<=nm) (h6:am≠nm) (h7:ab≠nb):Bf w B tb ab am li lb 0 [Bq 1 0 ByteArray.empty true] [nb] [nm] [sN] oc0:=by
 refine ⟨by simpa using ht,ha,hd,sI,λi x b m hx hb hm=> ?_,λ_=>⟨_,rfl,rfl,rfl⟩,rfl,by simp [h6,h7],h1,h2,h3,by simpa using h4,by simpa using ⟨h5,hk.lt⟩⟩
 cases i with
 |succ i=>simp at hx
 |zero=>
  simp at hx hb hm;subst hx hb hm;obtain ⟨qn,hn,C⟩:=hn;exact ⟨qn,_,_,hn,λ_=>⟨rfl,(hk.mono sI).same λs=>rfl⟩,rfl,(λq=>by cases q),λq=>absurd q C,λq=>absurd rfl q.2⟩
def J2:Al ⟨#[47]⟩=some []:=dz
def dy (li lb mm:Int) (w:World) (hm:cE w 3 0 (iV mm)) (a4:3<w.heap.size) (a5:0<=li/\li<=1000000) (a1:0<=lb/\lb<=1000000):
  cT 32 #[iV li,iV lb] w λe w'=>Bw w w'/\(li<=0/\e= .returned (.tuple #[.pointer none,.iface 40 (iV 12)])\/0<li/\∃tb ab am nb nm,e= .returned (.tuple #[qP tb 0,.nilIface])/\Bf w' w.heap.size tb ab am li lb 0 [Bq 1 0 ByteArray.empty true] [nb] [nm] [sN] oc0):=by
 have a0:=AC (Md w);have HM:=AC hm;clear hm;go_enter func32,ntmps32
 go_wp2_with fail
 refine a0.mono ?_;rintro e w1 ⟨rfl,E,Y,J⟩;obtain ⟨W2,D⟩:=xE (w1.alloc (Obj.cells #[qP (w.heap.size+1) 0,iV 0,iV li,iV 0,iV lb] 173));have C:AE W2 w1.heap.size 173 [qP (w.heap.size+1) 0,iV 0,iV li,iV 0,iV lb]:=by rw [D];exact AE.new w1 173 _
 have H:Bw w1 W2:=by rw [D];exact bA
 have F:=J.trans (H.mono J.size);have I:=E.below H E.lt;have L:=Y.kept (BE H) sI;have O:=J.size;have N:=E.lt;obtain ⟨tb,R⟩:=xE w1.heap.size;rw [<-R] at C O N
 have M:=AC (Lh tb (w.heap.size+1) (w.heap.size+1) w.heap.size 0 0 li 0 lb (λ_=>none) ByteArray.empty ⟨#[47]⟩ _ W2 C ⟨om,om⟩ a5 ⟨om,a1.1⟩ a1.2 dz (AC dz) I rfl L om dz ((Gt w.heap.size tb (w.heap.size+1) w.heap.size li lb 0 [] [] [] [] ⟨#[47]⟩ mm W2 (Bf.empty (oc:=oc0) C I L om om om) (λh=>absurd J2 h) sI sI dz (by unfold cE;rw [F.cell (p:=(xK 3 0)) a4];exact AB HM) (o1 F.size)).mono λe w3 h=>⟨by
  rcases h.2 with ⟨q,_⟩|⟨_,b,name,a2,rfl⟩
  ·exact absurd (show (AH [] ⟨#[47]⟩).e=0 by unfold AH;rw [J2]) q
  ·rcases a2 with ⟨_,rfl,rfl⟩|⟨⟨a,r,q⟩,_⟩
   ·rfl
   ·rw [J2] at q;exact absurd q sI,h.1⟩))
 obtain ⟨G,T,a6⟩:=H3 F I C;have HL:=AC (show w.heap.size<=tb/\w.heap.size+1<tb from ⟨O,N⟩);have Z:=AC D;clear E Y J D C H F I L O N a0
 go_upto_region 2 with fail
 rw [<-AB Z,<-R];clear Z R
 go_wp2_with fail
 refine M.mono ?_;rintro e w4 (⟨⟨c,h1⟩,_⟩|⟨_,h2,rfl,h4⟩|⟨_,h2,rfl,nb,nm,y1,y2,y3,y4,y5,y6,y7,y8⟩)
 ·cases h1
 ·have HQ:=AC (show Bw w w4/\li<=0 from ⟨G.trans (h4.mono G.size),h2⟩);clear h2 h4 M;unfold Bz;go_wp2
  go_ret2
  exact ⟨HQ.1,.inl ⟨HQ.2,rfl⟩⟩
 ·have hl:=AB HL;have X:=G.size;have a3:=a6.lt;have U:Bw w w4:=G.trans (y8.below om om X);have HR:=AC (show 0<li/\Bw w w4/\Bf w4 w.heap.size tb (w.heap.size+1) w.heap.size li lb 0 [Bq 1 0 ByteArray.empty true] [nb] [nm] [sN] oc0 from ⟨h2,U,Bf.rooted y6 (AJ T (y8.block _ T.lt om om)) y7 y4 y5 om om om om om om om⟩);clear h2 y1 y2 y3 y4 y5 y6 y7 y8 hl X a3 U M;go_wp2
  go_ret2
  exact ⟨HR.2.1,.inr ⟨HR.1,tb,_,_,nb,nm,rfl,HR.2.2⟩⟩
def Gv (n a b:Int) (w:World):cT 63 #[iV n,iV a,iV b] w λe w'=>e= .returned (.bool (decide (a<=n)&&decide (n<=b)))/\w'=w:=by
 by_cases h1:a<=n
 ·by_cases h2:n<=b
  ·rw [ve h1,ve h2];go_enter func63,ntmps63;go_wp2;go_ret;exact ⟨rfl,rfl⟩
  ·rw [ve h1,vf h2];go_enter func63,ntmps63;go_wp2;go_ret;exact ⟨rfl,rfl⟩
 ·rw [vf h1];go_enter func63,ntmps63;go_wp2;go_ret;exact ⟨rfl,rfl⟩
def Gb (n a b:Int) (q:Bool) (hq:q=(decide (a<=n)&&decide (n<=b))) (w:World):cT 63 #[iV n,iV a,iV b] w λe w'=>e= .returned (.bool q)/\w'=w:=by
 rw [hq];exact Gv n a b w
def SQ (lp lf lo li lb:Int) (w:World):cT 31 #[.agg #[iV lp,iV lf,iV lo,iV li,iV lb]] w λe w'=>(e= .returned (.bool true)/\F8 lp lf lo li lb\/e= .returned (.bool false)/\¬F8 lp lf lo li lb)/\Bw w w':=by
 obtain ⟨W0,E⟩:=xE (w.alloc (Obj.cells #[iV lp,iV lf,iV lo,iV li,iV lb] 23));have F:Bw w W0:=by rw [E];exact bA
 have D:AE W0 w.heap.size 23 [iV lp,iV lf,iV lo,iV li,iV lb]:=by rw [E];exact AE.new w 23 _
 have c0:cE W0 w.heap.size 0 (iV lp):=D.cell rfl;have c1:cE W0 w.heap.size 1 (iV lf):=D.cell rfl;have c2:cE W0 w.heap.size 2 (iV lo):=D.cell rfl;have c3:cE W0 w.heap.size 3 (iV li):=D.cell rfl;have c4:cE W0 w.heap.size 4 (iV lb):=D.cell rfl;obtain ⟨q0,h0⟩:∃q,q=(decide (1<=lp)&&decide (lp<=16)):=⟨_,rfl⟩;obtain ⟨q1,h1⟩:∃q,q=(decide (1<=lf)&&decide (lf<=1000)):=⟨_,rfl⟩;obtain ⟨q2,h2⟩:∃q,q=(decide (0<=lo)&&decide (lo<=100000)):=⟨_,rfl⟩;obtain ⟨q3,h3⟩:∃q,q=(decide (0<=li)&&decide (li<=100000)):=⟨_,rfl⟩;obtain ⟨q4,h4⟩:∃q,q=(decide (0<=lb)&&decide (lb<=100000)):=⟨_,rfl⟩;have H0:=AC (Gb lp 1 16 q0 h0 W0);have H1:=AC (Gb lf 1 1000 q1 h1 W0);have H2:=AC (Gb lo 0 100000 q2 h2 W0);have H3:=AC (Gb li 0 100000 q3 h3 W0);have H4:=AC (Gb lb 0 100000 q4 h4 W0)
 have HE:=AC (show F8 lp lf lo li lb↔(q0&&q1&&q2&&q3&&q4)=true by
  rw [h0,h1,h2,h3,h4];unfold F8;simp only [ug,rh];omega)
 have C:=AC F;have G:=AC E;clear h0 h1 h2 h3 h4 F E D;go_enter func31,ntmps31
 go_upto_region 1 with fail
 rw [<-AB G]
 go_wp2_with fail
 refine H0.mono ?_;rintro e _ ⟨rfl,rfl⟩
 cases q0 with
 |false=>
  go_wp2;go_ret
  exact ⟨.inr ⟨rfl,λh=>by have:=HE.1 h;simp at this⟩,AB C⟩
 |true=>
 go_wp2_with fail
 refine H1.mono ?_;rintro e _ ⟨rfl,rfl⟩
 cases q1 with
 |false=>
  go_wp2;go_ret
  exact ⟨.inr ⟨rfl,λh=>by have:=HE.1 h;simp at this⟩,AB C⟩
 |true=>
 go_wp2_with fail
 refine H2.mono ?_;rintro e _ ⟨rfl,rfl⟩
 cases q2 with
 |false=>
  go_wp2;go_ret
  exact ⟨.inr ⟨rfl,λh=>by have:=HE.1 h;simp at this⟩,AB C⟩
 |true=>
 go_wp2_with fail
 refine H3.mono ?_;rintro e _ ⟨rfl,rfl⟩
 cases q3 with
 |false=>
  go_wp2;go_ret
  exact ⟨.inr ⟨rfl,λh=>by have:=HE.1 h;simp at this⟩,AB C⟩
 |true=>
 go_wp2_with fail
 refine H4.mono ?_;rintro e _ ⟨rfl,rfl⟩
 cases q4 with
 |false=>
  go_wp2;go_ret
  exact ⟨.inr ⟨rfl,λh=>by have:=HE.1 h;simp at this⟩,AB C⟩
 |true=>
  go_wp2;go_ret;exact ⟨.inl ⟨rfl,HE.2 rfl⟩,AB C⟩
def UX (tb ab:Nat) (n li C lb:Int) (w:World) (h:AE w tb 173 [qP ab 0,iV n,iV li,iV C,iV lb]):
  cT 164 #[qP tb 0] w λe w'=>e= .returned (iV n)/\w'=w:=by
 have c1:cE w tb 1 (iV n):=h.cell rfl;clear h;go_enter func164,ntmps164;go_wp2;go_ret;exact ⟨rfl,rfl⟩
def WK (tb ab:Nat) (n li C lb:Int) (w:World) (h:AE w tb 173 [qP ab 0,iV n,iV li,iV C,iV lb]):
  cT 165 #[qP tb 0] w λe w'=>e= .returned (iV C)/\w'=w:=by
 have c1:cE w tb 3 (iV C):=h.cell rfl;clear h;go_enter func165,ntmps165;go_wp2;go_ret;exact ⟨rfl,rfl⟩
def SS (b:Nat) (a:Option Addr) (n c:Nat) (w:World) (h:cE w b 2 (.slice a n c)):
  cT 72 #[qP b 0] w λe w'=>e= .returned (.slice a n c)/\w'=w:=by
 go_enter func72,ntmps72;go_wp2;go_ret;exact ⟨rfl,rfl⟩
def UY (tb b:Nat) (o:Int) (a:Option Addr) (c:Nat) (w:World):
  cT 68 #[qP tb 0,qP b 0,iV o,.slice a 0 c] w λe w'=>e= .returned .nilIface/\w'=w:=by
 go_enter func68,ntmps68;go_wp2;go_ret;exact ⟨rfl,rfl⟩
def UZ (tb ab b:Nat) (n li C lb:Int) (n0 c0 n1 c1:Nat) (a0 a1:Option Addr) (w:World) (ht:AE w tb 173 [qP ab 0,iV n,iV li,iV C,iV lb]) (hb:cE w b 2 (.slice a0 n0 c0)) (hn:0<=n/\n<=li) (G:li<=1000000) (h1:0<n1) (H:n0<=1000000) (I:n1<=1000000) (hu:0<=C/\C<=1000000/\0<=lb/\lb<=1000000) (hf:lb-C<((n1-n0:Nat):Int)):
  cT 68 #[qP tb 0,qP b 0,iV 0,.slice a1 n1 c1] w λe w'=>e=Bz 12/\Bw w w':=by
 have k1:((n1:Int)==0)=false:=sO;have k2:max (0:Int) ((n1:Int)-(n0:Int))=((n1-n0:Nat):Int):=om;have D:=AC (GP tb ab n li C lb 0 ((n1-n0:Nat):Int) w ht ⟨hn.1,om⟩ ⟨om,G⟩ ⟨hu.1,hu.2.1⟩ hu.2.2);rw [vf (show ¬((n1-n0:Nat):Int)<=lb-C by omega),Bool.and_false] at D;clear ht;go_enter func68,ntmps68
 go_upto_region 4 with fail
 go_wp2_with fail
 refine D.mono ?_;rintro e w1 ⟨rfl,_,E⟩;have F:=AC E;clear E D;go_wp2;go_ret;exact ⟨rfl,AB F⟩
def FD (n:Nat):Builtin.zeroCells (Value.int .u8 0).cells n=(AF (List.replicate n 0)).toArray:=by
 have h:(Value.int .u8 0).cells=#[.int .u8 0]:=rfl;rw [h];apply Array.ext
 ·simp [Builtin.zeroCells,AF]
 ·intro j h1 h2;simp [Builtin.zeroCells,AF,Nat.mod_one]
def WL:(prog.info? 5).map (λi=>(i.zero,i.size,i.bytes))=some (some (.int .u8 0),1,1):=kf
def WM (tb ab b q o:Nat) (n li C lb:Int) (n1 c1:Nat) (mv:Value) (L:List Int) (w:World) (hL:L.length=n1) (hq:q<w.heap.size) (b4:q≠tb) (b6:q≠b) (hv:Am w q o L) (ht:AE w tb 173 [qP ab 0,iV n,iV li,iV C,iV lb]) (hb:AE w b 257 [.string pth,.bool false,sN,mv,iV on]) (hn:0<=n/\n<=li) (c2:li<=1000000) (h1:0<n1) (d7:n1<=1000000) (hu:0<=C/\C<=1000000/\0<=lb/\lb<=1000000) (hf:(n1:Int)<=lb-C):
  cT 68 #[qP tb 0,qP b 0,iV 0,sL q o n1 c1] w λe w'=>e= .returned .nilIface/\AE w' tb 173 [qP ab 0,iV n,iV li,iV (C+(n1:Int)),iV lb]/\Ao w w' tb b/\∃R cp,w.heap.size<=R/\n1<=cp/\cp<=maxLen/\AE w' b 257 [.string pth,.bool false,sL R 0 n1 cp,mv,iV on]/\AE w' R 5 (AF (L++List.replicate (cp-n1) 0)):=by
 have t3:cE w tb 3 (iV C):=ht.cell rfl;have f3:=ht.frozen 3;have b1:cE w b 2 sN:=hb.cell rfl;have k1:((n1:Int)==0)=false:=sO;have k2:max (0:Int) ((n1:Int))=(n1:Int):=om;have a7:b≠tb:=Ab hb ht dz;have HT:=AC ht;have HB:=AC hb;have HV:=AC hv;have Y:=AC (GP tb ab n li C lb 0 (n1:Int) w ht ⟨hn.1,om⟩ ⟨om,c2⟩ ⟨hu.1,hu.2.1⟩ hu.2.2);rw [ve (show (0:Int)<=li-n by omega),ve hf,Bool.and_true] at Y;clear ht hb hv t3 f3 hn c2;go_enter func68,ntmps68
 go_upto_region 4 with fail
 go_wp2_with fail
 refine Y.mono ?_;rintro e wq ⟨rfl,T,G⟩;have a3:=AC T;have d2:=AC (show w.grownBy wq (some tb) from ⟨G.os,G.tape,G.output,G.size,λk hk _=>G.block k hk⟩);have t3:cE wq tb 3 (iV C):=(HT.heap (W':=wq) T).cell rfl;have f3:=(HT.heap (W':=wq) T).frozen 3;clear T G Y b1
 go_upto_region 7 with fail
 obtain ⟨W1,J⟩:=xE (wq.setCell (xK tb 3) (iV (C+(n1:Int))));rw [<-J];have a4:AE W1 b 257 [.string pth,.bool false,sN,mv,iV on]:=by rw [J];exact (HB.heap (W':=wq) (AB a3)).set_other a7 3 _
 have b7:AE W1 tb 173 [qP ab 0,iV n,iV li,iV (C+(n1:Int)),iV lb]:=by rw [J];exact (HT.heap (W':=wq) (AB a3)).set 3 _
 obtain ⟨i,hi⟩:∃i,prog.info? 5=some i:=by
  have:=WL
  cases h:prog.info? 5 with
  |none=>rw [h] at this;cases this
  |some i=>exact ⟨i,rfl⟩
 have c6:i.zero=some (.int .u8 0)/\i.size=1/\i.bytes=1:=by
  have:=WL;rw [hi] at this;simpa using this
 have O:=Go.Lib.run_append_nil_zeros (P:=prog) W1 36 3 36 5 i (.int .u8 0) .i64 .i64 underlying36 underlying3 hi c6.1 n1 h1 om om (by rw [c6.2.2];omega);obtain ⟨cp,X⟩:=xE (grownCap W1 n1 0 5);rw [<-X] at O;obtain ⟨W2,a1⟩:=xE (W1.drew.alloc (.cells (Builtin.zeroCells (Value.int .u8 0).cells n1++Builtin.zeroCells (Value.int .u8 0).cells (cp-n1)) 5));rw [<-a1] at O;have d8:cE W1 b 2 sN:=a4.cell rfl;have d5:=AC O;have b8:=AC a4;have d4:=AC b7;have b9:=AC J;have H:=AC a1;have c7:=AC (show n1<=cp/\cp<=maxLen from by rw [X];exact ⟨grownCap_ge _ _ _ _,grownCap_le_maxLen _ _ _ _ (by unfold maxLen;omega)⟩);clear O a4 b7 J a1 X t3 f3;have a0:AE W2 b 257 [.string pth,.bool false,sN,mv,iV on]:=by rw [AB H];exact (b8.heap (W':=W1.drew) rfl).alloc _
 have b2:cE W2 b 2 sN:=a0.cell rfl;have g2:=a0.frozen 2;clear a0
 go_upto_region 8 with (at_builtin;refine Lib.wpList_append_run _ rfl _ _ _ _ rfl _ _ rfl rfl _ _ d5 ?_)
 obtain ⟨R,hR⟩:=xE W1.heap.size;rw [<-hR];obtain ⟨W3,F⟩:=xE (W2.setCell (xK b 2) (sL R 0 n1 cp));rw [<-F];have d3:W1.heap.size=w.heap.size:=by rw [AB b9];simp [World.setCell,AB a3]
 have b3:=HB.lt;have c4:=HT.lt
 have a5:AE W2 R 5 (AF (List.replicate n1 0++List.replicate (cp-n1) 0)):=by
  rw [AB H,hR];have:=AE.new W1.drew 5 (AF (List.replicate n1 0++List.replicate (cp-n1) 0));rw [FD,FD,show (AF (List.replicate n1 0)).toArray++(AF (List.replicate (cp-n1) 0)).toArray=(AF (List.replicate n1 0++List.replicate (cp-n1) 0)).toArray by simp [AF]];exact this
 have b0:AE W3 R 5 (AF (List.replicate n1 0++List.replicate (cp-n1) 0)):=by rw [F];exact a5.set_other om 2 _
 have Z:AE W3 b 257 [.string pth,.bool false,sL R 0 n1 cp,mv,iV on]:=by rw [F,AB H];exact ((b8.heap (W':=W1.drew) rfl).alloc _).set 2 _
 have c0:AE W3 tb 173 [qP ab 0,iV n,iV li,iV (C+(n1:Int)),iV lb]:=by rw [F,AB H];exact ((d4.heap (W':=W1.drew) rfl).alloc _).set_other a7.symm 2 _
 have c9:Ao w W1 tb b:=by rw [AB b9];exact (Ao.refl w tb b).grownL (w'':=wq.setCell (xK tb 3) (iV (C+(n1:Int)))) (AI (w:=w) (wr:=wq) (b:=tb) (AB d2) 3 _)
 have I:Bw W1 W2:=by
  rw [AB H];have h:=(zw W1.drew.heap.size W1.drew).alloc (zx _) (.cells (Builtin.zeroCells (Value.int .u8 0).cells n1++Builtin.zeroCells (Value.int .u8 0).cells (cp-n1)) 5);exact ⟨h.os,h.tape,h.output,h.size,h.block⟩
 have D:Ao w W3 tb b:=by rw [F];exact (c9.step I).grownR (AI (w:=W2) (wr:=W2) ⟨rfl,rfl,rfl,zx _,λ_ _ _=>rfl⟩ 2 _)
 have N:∀(j:Nat) (v:Value),(AF L)[j]? =some v->W3.cell? (((xK q o):Addr).add j)=some v:=by
  intro j v hj;have a6:j<L.length:=by have:=(zy.1 hj).1;rwa [AG] at this
  rw [AN L j a6] at hj;obtain rfl:=zr hj;have h:=(AB HV) j a6;have he:W3.cell? (xK q (o+j))=w.cell? (xK q (o+j)):=by unfold World.cell?;rw [D.block q hq b4 b6]
  rw [show ((xK q o):Addr).add j=(xK q (o+j)) from by simp [Addr.add]];exact he.trans h
 have a8:(AF L).length=Nat.min n1 n1:=by rw [AG,hL];simp
 have d0:0+(AF L).length<=(AF (List.replicate n1 0++List.replicate (cp-n1) 0)).length:=by rw [AG,AG,hL];simp
 have U:w.heap.size<=R:=om;have c8:=AC U;have b5:Hid (W3.heap[R]? =some (.cells (AF (List.replicate n1 0++List.replicate (cp-n1) 0)).toArray 5 (0,0))):=b0;have a9:=AC Z;have d1:=AC c0;have c5:=AC D;have M:=AC N;have a2:=AC (xi a8 d0);have c3:cE W3 b 2 (sL R 0 n1 cp):=Z.cell rfl;have d6:=AC hL;clear N a8 d0 U b0 Z c0 D c9 I a5 d3 b3 c4 F hR hL hq b4 b6
 go_upto_region 9 with (refine wpList_copy_splice rfl _ _ 36 36 rfl 5 underlying36 N0 (some (xK R 0)) (some (xK q o)) n1 cp n1 c1 rfl rfl R 0 (AF (List.replicate n1 0++List.replicate (cp-n1) 0)) 5 b5 (AF L) a2.1 (λ_=>⟨rfl,(xK q o),rfl,AB M⟩) a2.2 (C4 _) R W3 (zw _ _) (zx _) ?_;intro w4 H4 E)
 have HP:=AC (show AE w4 tb 173 [qP ab 0,iV n,iV li,iV (C+(n1:Int)),iV lb]/\Ao w w4 tb b/\∃R cp,w.heap.size<=R/\n1<=cp/\cp<=maxLen/\AE w4 b 257 [.string pth,.bool false,sL R 0 n1 cp,mv,iV on]/\AE w4 R 5 (AF (L++List.replicate (cp-n1) 0)) from by
  have U:=AB c8;have c4:=HT.lt;have b3:=HB.lt;have D:=AB c5;refine ⟨d1.below E om,⟨E.os.trans D.os,E.tape.trans D.tape,E.output.trans D.output,zg D.size E.size,λk hk h1 h2=>(E.block k om).trans (D.block k hk h1 h2)⟩,R,cp,U,c7.1,c7.2,a9.below E om,?_⟩;have h:=AB H4;rw [CD,show splice (List.replicate n1 (0:Int)++List.replicate (cp-n1) 0) 0 L=L++List.replicate (cp-n1) 0 from by simp [splice,AB d6]] at h
  exact h)
 clear H4 E b5 a9 d1 c5 M a2 c8 c3;go_wp2;go_ret;exact ⟨rfl,AB HP⟩
def DU (A B:List Int):AF (A++B)=AF A++AF B:=by simp [AF]
def nf (n:Nat):(Builtin.zeroCells (Value.int .u8 0).cells n).toList=AF (List.replicate n 0):=by rw [FD]
def WN (C T:List Int) (k:Nat) (hk:k<=T.length):splice (C++T) C.length (List.replicate k 0)=C++List.replicate k 0++T.drop k:=by
 unfold splice;rw [List.take_left' rfl,tz,rm];simp
def Nb (w:World) (R c0 k:Nat) (C T:List Int) (h:AE w R 5 (AF (C++T))) (hc:c0=C.length+T.length) (L:c0<=maxLen) (hl:C.length+k<=100000000):
  ∃R' cp T' w',(Builtin.append_ #[36,3] 36 #[sL R 0 C.length c0,iV k]).run prog w= .ok (sL R' 0 (C.length+k) cp) w'/\AE w' R' 5 (AF (C++List.replicate k 0++T'))/\cp=C.length+k+T'.length/\cp<=maxLen/\(R'=R/\w.grownBy w' (some R)\/R'=w.heap.size/\w.grownBy w' none):=by
 obtain ⟨i,hi⟩:∃i,prog.info? 5=some i:=by
  have:=WL
  cases h:prog.info? 5 with
  |none=>rw [h] at this;cases this
  |some i=>exact ⟨i,rfl⟩
 have D:i.zero=some (.int .u8 0)/\i.size=1/\i.bytes=1:=by
  have:=WL;rw [hi] at this;simpa using this
 by_cases hg:c0<C.length+k
 ·have H:(Builtin.firstCells i.size C.length (sL R 0 C.length c0)).run prog w.drew= .ok (AF C).toArray w.drew:=by
   refine run_firstCells_some (P:=prog) w.drew i.size C.length (xK R 0) C.length c0 (AF C) (by rw [AG,D.2.1,Nat.mul_one]) (λj v hj=> ?_);have hd:AE w.drew R 5 (AF (C++T)):=h.heap rfl;rw [Addr.add_mid,zq];refine hd.cell ?_;rw [DU,zo (zy.1 hj).1];exact hj
  have hr:=Go.Lib.run_append_grow_zeros (P:=prog) w 36 3 36 5 i (.int .u8 0) .i64 .i64 underlying36 underlying3 hi D.1 (some (xK R 0)) C.length c0 (AF C) H k om om hg om (by rw [D.2.2];omega) (growslice_fits hg (by rw [D.2.2];omega));have X:=grownCap_ge w (C.length+k) c0 5;have O:=grownCap_le_maxLen w (C.length+k) c0 5 (by unfold maxLen;omega);refine ⟨w.heap.size,grownCap w (C.length+k) c0 5,List.replicate (grownCap w (C.length+k) c0 5-(C.length+k)) 0,_,hr,?_,sO,O,.inr ⟨rfl,?_⟩⟩
  ·rw [FD,FD,show (AF C).toArray++(AF (List.replicate k 0)).toArray++(AF (List.replicate (grownCap w (C.length+k) c0 5-(C.length+k)) 0)).toArray=(AF (C++List.replicate k 0++List.replicate (grownCap w (C.length+k) c0 5-(C.length+k)) 0)).toArray from by simp [AF]];exact AE.new w.drew 5 _
  ·exact ⟨rfl,rfl,rfl,sI,λk hk _=>heap_alloc_old w.drew _ hk⟩
 ·have N:k<=T.length:=om;refine ⟨R,c0,T.drop k,w.setCells R C.length (AF (List.replicate k 0)),?_,?_,sO,L,.inl ⟨rfl,Er _ _ w (zj _ _)⟩⟩
  ·have F:C.length+k<=c0:=om
   have G:=run_storeCells_cells (P:=prog) R C.length (AF (List.replicate k 0)) 0 w (λj hj=>by
    rw [AG,tz] at hj;rw [sq,h.cell (AN _ (C.length+j) (by rw [zm];omega))]
    rfl) (λj hj=>h.frozen _) (C4 _)
   simp only [sq] at G;have hw:IntKind.i64.wrap (k:Int)=k:=by rw [yg];omega
   have I:¬((k:Int)<0):=om;have M:¬(281474976710656<(k:Int)):=om;have hz:∀n,(Builtin.zeroCells (Value.int .u8 0).cells n).toList=AF (List.replicate n 0):=nf;by_cases J:k=0
   ·subst J;have E:C.length<=c0:=om;have h0:(AF (List.replicate 0 (0:Int)))=[]:=rfl;rw [h0] at G ⊢;have U:IntKind.i64.wrap 0=0:=by rw [yg];decide
    simp [Builtin.append_,ue underlying36,ue underlying3,sizeOf,typeInfo,zeroValue,hi,D.1,D.2.1,D.2.2,asInt,asIntOf,U,E,Addr.add_lit,G]
   ·simp [Builtin.append_,ue underlying36,ue underlying3,sizeOf,typeInfo,zeroValue,hi,D.1,D.2.1,D.2.2,asInt,asIntOf,hw,I,M,F,J,hz,Addr.add_lit,G]
  ·have:=Ep (AF (List.replicate k 0)) C.length w _ h (by rw [AG,AG,tz,zm];omega);rw [CD,WN C T k N] at this;exact this
def PQ {P:Program} {ops:Array Oper} {rest:List Oper} {o:Oper} {a:Act} {Q:Exit->Act->World->Prop} (J:o.guard=none) (d s:Operand) (dT sT:TypeId)
  (ho:o.op= .call {callee:= .builtin .copy,args:=#[d,s],argTypes:=#[dT,sT]}) (C:TypeId) (hu:P.underlying dT=some (.slice C)) (N:(P.info? C).map (·.size)=some 1)
  (g off D G:Nat) (q qo F H:Nat) (hd:a.eval d= sL g off D G) (hs:a.eval s= sL q qo F H)
  (I:List Value) (t:TypeId) (hg:AE w g t I) (cs:List Value) (hn:cs.length=Nat.min F D) (M:∀j v,cs[j]? =some v->w.cell? (xK q (qo+j))=some v)
  (h1:∀v∈cs,v.oneCell'=true) (L:off+cs.length<=I.length)
  (h:∀w',Hid (AE w' g t (splice I off cs))->Hid (w.grownBy w' (some g))->wpList P ops Q rest (a.put o.dst (goInt cs.length)) w'):wpList P ops Q (o::rest) a w:=by
 refine wpList_plain J λK hK=> ?_;have:=FQ (P:=P) (ops:=ops) (o:=o) (a:=a) (w:=w) (K:=K) (Q:=Q) (E:=True) J d s dT sT ho C hu N g off D G q qo F H hd hs I t hg cs hn M h1 L (λw' h1 h2=>hK _ _ (h w' h1 h2));have hw:Region.wanted o (yielded ops a.tmps)=true:=by simp [Region.wanted,J]
 rw [vu hw] at this;exact this
def PU (C T:List Int) (k:Nat) (L:List Int) (hk:k=L.length-C.length):splice (C++List.replicate k 0++T) 0 L=Fb C L++T:=by
 have D:(C++List.replicate k 0++T).drop L.length=C.drop L.length++T:=by
  by_cases h:C.length<=L.length
  ·rw [xw h,xt,List.drop_left' (by rw [zm,tz];omega)]
  ·have:k=0:=om;subst this;rw [List.replicate_zero,xr,rm,show L.length-C.length=0 by omega,List.drop_zero]
 unfold splice Fb;rw [zq,List.take_zero,xt,D,xu]
def WO (tb ab b q o R0:Nat) (n li D lb:Int) (n1 c1 c0:Nat) (mv:Value) (L C T:List Int) (w:World) (hL:L.length=n1) (hq:q<w.heap.size) (c9:q≠tb) (d1:q≠b) (b6:q≠R0) (hv:Am w q o L) (ht:AE w tb 173 [qP ab 0,iV n,iV li,iV D,iV lb]) (hb:AE w b 257 [.string pth,.bool false,sL R0 0 C.length c0,mv,iV on]) (hr:AE w R0 5 (AF (C++T))) (hc:c0=C.length+T.length) (g0:c0<=maxLen) (g6:C.length<=1000000) (hn:0<=n/\n<=li) (d5:li<=1000000) (h1:0<n1) (g7:n1<=1000000) (hu:0<=D/\D<=1000000/\0<=lb/\lb<=1000000) (hf:((n1-C.length:Nat):Int)<=lb-D):
  cT 68 #[qP tb 0,qP b 0,iV 0,sL q o n1 c1] w λe w'=>e= .returned .nilIface/\AE w' tb 173 [qP ab 0,iV n,iV li,iV (D+((n1-C.length:Nat):Int)),iV lb]/\C7 w w' [tb,b,R0]/\∃R cp T',(R=R0\/w.heap.size<=R)/\cp=(Fb C L).length+T'.length/\cp<=maxLen/\AE w' b 257 [.string pth,.bool false,sL R 0 (Fb C L).length cp,mv,iV on]/\AE w' R 5 (AF (Fb C L++T')):=by
 have t3:cE w tb 3 (iV D):=ht.cell rfl;have f3:=ht.frozen 3;obtain ⟨n0,Y⟩:=xE C.length;obtain ⟨mo,a8⟩:=xE (n1-n0);obtain ⟨nn,d9⟩:=xE (n0+mo);rw [<-Y] at hb g6 hf hc ⊢;rw [<-a8] at hf ⊢;have c4:(Fb C L).length=nn:=by rw [Ib (M:=max n1 n0) (by rw [hL,Y])];omega
 rw [c4];have a5:n1<=nn:=om;have b1:cE w b 2 (sL R0 0 n0 c0):=hb.cell rfl;have k1:((n1:Int)==0)=false:=sO;have k2:max (0:Int) ((n1:Int)-(n0:Int))=(mo:Int):=om;have b8:b≠tb:=Ab hb ht dz;have a4:R0≠tb:=Ab hr ht dz;have d7:R0≠b:=Ab hr hb dz;have HT:=AC ht;have HB:=AC hb;have HV:=AC hv;have f4:=AC hr;have HN:=AC (xi Y (xi a8 d9));have HC:=AC hc;have a2:=AC (GP tb ab n li D lb 0 (mo:Int) w ht ⟨hn.1,om⟩ ⟨om,d5⟩ ⟨hu.1,hu.2.1⟩ hu.2.2);rw [ve (show (0:Int)<=li-n by omega),ve hf,Bool.and_true] at a2;clear ht hb hv hr Y a8 d9 hc c4 t3 f3 hn d5;go_enter func68,ntmps68
 go_upto_region 4 with fail
 go_wp2_with fail
 refine a2.mono ?_;rintro e wq ⟨rfl,a1,I⟩;have a0:=AC a1;have f5:=AC (show w.grownBy wq (some tb) from ⟨I.os,I.tape,I.output,I.size,λk hk _=>I.block k hk⟩);have t3:cE wq tb 3 (iV D):=(HT.heap (W':=wq) a1).cell rfl;have f3:=(HT.heap (W':=wq) a1).frozen 3;clear a1 I a2 b1
 go_upto_region 7 with fail
 obtain ⟨W1,G⟩:=xE (wq.setCell (xK tb 3) (iV (D+(mo:Int))));rw [<-G];have b4:AE W1 b 257 [.string pth,.bool false,sL R0 0 n0 c0,mv,iV on]:=by rw [G];exact (HB.heap (W':=wq) (AB a0)).set_other b8 3 _
 have c2:AE W1 R0 5 (AF (C++T)):=by rw [G];exact (f4.heap (W':=wq) (AB a0)).set_other a4 3 _
 have d2:AE W1 tb 173 [qP ab 0,iV n,iV li,iV (D+(mo:Int)),iV lb]:=by rw [G];exact (HT.heap (W':=wq) (AB a0)).set 3 _
 have f0:C7 w W1 [tb,b,R0]:=by rw [G];exact (C7.refl w _).grown (r:=some tb) (AI (w:=w) (wr:=wq) (b:=tb) (AB f5) 3 _) (λx hx=> .inl (by simp at hx;simp [hx]))
 have g1:W1.heap.size=w.heap.size:=by rw [G];simp [World.setCell,AB a0]
 obtain ⟨R,cp,T',W2,b0,b5,F,N,a3⟩:=Nb W1 R0 c0 mo C T c2 (o2 HN.1 (AB HC)) g0 (o1 HN.1);rw [<-HN.1,<-HN.2.2] at b0 F;have U:R=R0\/w.heap.size<=R:=by rcases a3 with ⟨q1,_⟩|⟨q1,_⟩;exact .inl q1;exact .inr om
 have d6:R≠tb:=by have:=HT.lt;rcases U with q1|q1;rw [q1];exact a4;omega
 have b3:R≠b:=by have:=HB.lt;rcases U with q1|q1;rw [q1];exact d7;omega
 have E:∃r,W1.grownBy W2 r/\(∀x,r=some x->x=R0):=by
  rcases a3 with ⟨_,q1⟩|⟨_,q1⟩
  ·exact ⟨some R0,q1,λx hx=>by simpa using hx.symm⟩
  ·exact ⟨none,q1,λx hx=>by cases hx⟩
 obtain ⟨r,E,Z⟩:=E;have X:AE W2 b 257 [.string pth,.bool false,sL R0 0 n0 c0,mv,iV on]:=b4.grown E (λe=>d7 (Z _ e.symm).symm);have d3:=d2.grown E (λe=>a4 (Z _ e.symm).symm);have c8:C7 w W2 [tb,b,R0]:=f0.grown E (λx hx=> .inl (by rw [Z x hx];simp));have g3:=AC b0;have f8:=AC X;have f6:=AC d3;have f7:=AC b5;have g5:=AC c8;have c6:=AC (xi F (xi N U));have f9:cE W1 b 2 (sL R0 0 n0 c0):=b4.cell rfl;have b2:cE W2 b 2 (sL R0 0 n0 c0):=X.cell rfl;have g2:=X.frozen 2;clear b0 b4 d2 G c2 f0 t3 f3 X d3 b5 c8 F N U a3 E Z g1
 go_upto_region 8 with (at_builtin;refine Lib.wpList_append_run _ rfl _ _ _ _ rfl _ _ rfl rfl _ _ g3 ?_)
 obtain ⟨W3,H⟩:=xE (W2.setCell (xK b 2) (sL R 0 nn cp));rw [<-H];have c7:AE W3 R 5 (AF (C++List.replicate mo 0++T')):=by rw [H];exact f7.set_other b3 2 _
 have a7:AE W3 b 257 [.string pth,.bool false,sL R 0 nn cp,mv,iV on]:=by rw [H];exact f8.set 2 _
 have d4:AE W3 tb 173 [qP ab 0,iV n,iV li,iV (D+(mo:Int)),iV lb]:=by rw [H];exact f6.set_other b8.symm 2 _
 have a6:C7 w W3 [tb,b,R0]:=by rw [H];exact g5.grown (AI (w:=W2) (wr:=W2) (b:=b) (zj _ _) 2 _) (λx hx=> .inl (by simp at hx;simp [hx]))
 have O:∀(j:Nat) (v:Value),(AF L)[j]? =some v->W3.cell? (xK q (o+j))=some v:=by
  intro j v hj;have b7:j<L.length:=by have:=(zy.1 hj).1;rwa [AG] at this
  rw [AN L j b7] at hj;obtain rfl:=zr hj;have h:=(AB HV) j b7;have he:W3.cell? (xK q (o+j))=w.cell? (xK q (o+j)):=by unfold World.cell?;rw [a6.block q hq (by simp [c9,d1,b6])]
  exact he.trans h
 have b9:(AF L).length=Nat.min n1 nn:=by rw [AG,hL];exact (Nat.min_eq_left a5).symm
 have f1:0+(AF L).length<=(AF (C++List.replicate mo 0++T')).length:=by have:=AB HN;rw [AG,AG,hL];simp;omega
 have d0:=AC c7;have c5:=AC a7;have f2:=AC d4;have d8:=AC a6;have J:=AC O;have a9:=AC (xi b9 f1);have c3:cE W3 b 2 (sL R 0 nn cp):=a7.cell rfl;have g4:=AC hL;have HH:=AC (xi d6 b3);clear O b9 f1 c7 a7 d4 a6 H hL hq c9 d1 b6 d6 b3 f9 b2 g2
 go_upto_region 9 with (refine PQ rfl _ _ 36 36 rfl 5 underlying36 N0 R 0 nn cp q o n1 c1 rfl rfl (AF (C++List.replicate mo 0++T')) 5 d0 (AF L) a9.1 J (C4 _) a9.2 ?_;intro w4 H4 G4)
 have HP:=AC (show AE w4 tb 173 [qP ab 0,iV n,iV li,iV (D+(mo:Int)),iV lb]/\C7 w w4 [tb,b,R0]/\∃R cp T',(R=R0\/w.heap.size<=R)/\cp=nn+T'.length/\cp<=maxLen/\AE w4 b 257 [.string pth,.bool false,sL R 0 nn cp,mv,iV on]/\AE w4 R 5 (AF (Fb C L++T')) from by
  have F:=AB c6;have hh:=AB HH;refine ⟨f2.grown (AB G4) (by simpa using λe=>hh.1 e.symm),d8.grown (AB G4) (λx hx=> ?_),R,cp,T',F.2.2,F.1,F.2.1,c5.grown (AB G4) (by simpa using λe=>hh.2 e.symm),?_⟩
  ·have hx:R=x:=sU hx;subst hx;rcases F.2.2 with q1|q1
   ·exact .inl (by simp [q1])
   ·exact .inr q1
  ·have h:=AB H4;have hn:=AB HN;rw [CD,PU C T' mo L (by rw [AB g4,<-hn.1];exact hn.2.1)] at h
   exact h)
 clear H4 G4 d0 c5 f2 d8 J a9 c6 HH c3;go_wp2;go_ret;exact ⟨rfl,AB HP⟩
section
variable {lz:Bool}
def GQ (w:World) (B:Nat) (v:Value) (c:List Int):Prop:=
 v= sN/\c=[]\/∃R cp T,v= sL R 0 c.length cp/\AE w R 5 (AF (c++T))/\cp=c.length+T.length/\cp<=maxLen/\B<=R
def AV:Value->Option Nat
 | .slice (some a) _ _=>some a.block
 |_=>none
structure BS (w:World) (B tb ab am:Nat) (p:PK) (NB MB:List Nat) (V:List Value) (oc:Int->Int):Prop where
 tree:Bf w B tb ab am p.li p.lb (AM p.cs) p.xs NB MB V oc
 cont:∀(i:Nat) (v:Value) (c:List Int),V[i]? =some v->p.cs[i]? =some c->GQ w B v c
 own:∀(i j:Nat) (v u:Value) (R:Nat),V[i]? =some v->V[j]? =some u->AV v=some R->AV u=some R->i=j
def GQ.block (h:GQ w B v c) (hk:∀R,AV v=some R->R<w.heap.size->(∃L,AE w R 5 L)->w'.heap[R]? =w.heap[R]?):GQ w' B v c:=by
 rcases h with h|⟨R,cp,T,h1,h2,h3⟩
 ·exact .inl h
 ·exact .inr ⟨R,cp,T,h1,AJ h2 (hk R (by rw [h1];rfl) h2.lt ⟨_,h2⟩),h3⟩
def GQ.len (h:GQ w B v c):∃a cp,v= .slice a c.length cp:=by
 rcases h with ⟨h1,h2⟩|⟨R,cp,T,h1,_⟩
 ·exact ⟨none,0,by rw [h1,h2];rfl⟩
 ·exact ⟨_,_,h1⟩
def BS.below (h:BS w B tb ab am p NB MB V oc) (hb:Bw w w'):BS w' B tb ab am p NB MB V oc:=
 ⟨h.tree.below hb,λi v c hv hc=>(h.cont i v c hv hc).block λR _ hl _=>hb.block R hl,h.own⟩
def WP {R:Nat} {t:TypeId} {vs:List Value} (h:WG w m) (hh:AE w R t vs):R≠m:=by
 intro e;subst e;obtain ⟨es,C,hb⟩:=h;unfold AE at hh;rw [hb] at hh;cases hh
def BS.grew {q:PK} {F E:List Nat} (h:BS w B tb ab am p NB MB V oc) (hi:Ct lz p) (hq:q.cs=p.cs++[[]]) (hf:Ao w w' tb m) (hm:WG w m) (ht:Bf w' B tb ab am q.li q.lb (AM p.cs) q.xs F E (V++[sN]) oc):BS w' B tb ab am q F E (V++[sN]) oc:=by
 have hl:V.length=p.cs.length:=by rw [h.tree.vlen,hi.len]
 refine ⟨by rw [hq,F9];exact ht,λi v c hv hc=> ?_,λi j v u R hv hu h1 h2=> ?_⟩
 ·rw [hq] at hc;by_cases H:i<V.length
  ·rw [zo H] at hv;rw [zo om] at hc;exact (h.cont i v c hv hc).block λR _ hl ⟨L,hL⟩=>hf.block R hl (Ab hL h.tree.tree dz) (WP hm hL)
  ·rw [zn om] at hv hc;have D:i-V.length=0:=by have:=(zy.1 hv).1;simp at this;omega
   rw [D] at hv;rw [<-hl,D] at hc;simp at hv hc;exact .inl ⟨hv.symm,hc⟩
 ·have C:∀(k:Nat) (x:Value),(V++[Value.slice none 0 0])[k]? =some x->AV x=some R->k<V.length/\V[k]? =some x:=by
   intro k x hx hb;by_cases hk:k<V.length
   ·rw [zo hk] at hx;exact ⟨hk,hx⟩
   ·rw [zn om] at hx;have G:k-V.length=0:=by have:=(zy.1 hx).1;simp at this;omega
    rw [G] at hx;simp at hx;subst hx;cases hb
  exact h.own i j v u R (C i v hv h1).2 (C j u hu h2).2 h1 h2
def Bf.wrote {H C:Int} {xs:List Ino} (h:Bf w B tb ab am li lb H xs NB MB V oc) (hx:xs[i]? =some x) (hd:x.dir=false) (hb:NB[i]? =some b)
  (ht:AE w' tb 173 [qP ab 0,iV xs.length,iV li,iV C,iV lb]) (hn:AE w' b 257 [.string pth,.bool false,v',mv,iV (oc x.id)]) (N:mv= .map none) (O:pth.size=0↔x.lost)
  (hf:C7 w w' S) (hS:∀k∈S,k=tb\/k=b\/w.heap.size<=k\/∃L,AE w k 5 L):Bf w' B tb ab am li lb C xs NB MB (V.set i v') oc:=by
 obtain ⟨I,U⟩:=zy.1 hx;have T:b∈NB:=zv hb
 have D:∃vs,AE w b 257 vs:=by
  obtain ⟨qn,v,mv,q,_⟩:=h.node i x b MB[i]! hx hb (by rw [List.getElem!_eq_getElem?_getD];rw [zz (by rw [h.len.2];exact I)];rfl);exact ⟨_,q⟩
 have E:∀(k:Nat) (t:TypeId) (vs:List Value),AE w k t vs->k≠tb->k≠b->t≠5->AE w' k t vs:=by
  intro k t vs hk h1 h2 h3;refine AJ hk (hf.block k hk.lt λe=> ?_);rcases hS k e with q|q|q|⟨L,q⟩
  ·exact h1 q
  ·exact h2 q
  ·have:=hk.lt;omega
  ·exact Ab hk q h3 rfl
 have F:∀(m n:Nat) (f:ByteArray->Option Nat),Aq w m n f->Aq w' m n f:=by
  intro m n f hm;refine hm.block (hf.block m hm.lt λe=> ?_);rcases hS m e with q|q|q|⟨L,q⟩
  ·exact Cy hm h.tree q.symm
  ·obtain ⟨vs,R⟩:=D;exact Cy hm R q.symm
  ·have:=hm.lt;omega
  ·exact Cy hm q rfl
 refine ⟨ht,E ab _ _ h.above (Ab h.above h.tree dz) (λe=>h.apart.2.2.2 (e▸T)) dz,F _ _ _ h.amap,h.len,λj y c m hy hc hm=> ?_,h.root,by rw [yu];exact h.vlen,h.apart,h.low.1,h.low.2.1,h.low.2.2.1,h.low.2.2.2.1,λm hm=>⟨(h.low.2.2.2.2 m hm).1,o2 (h.low.2.2.2.2 m hm).2 hf.size⟩⟩;obtain ⟨qn,v1,M,h1,h2,h3⟩:=h.node j y c m hy hc hm;by_cases G:j=i
 ·subst G;rw [hx] at hy;obtain rfl:=zr hy;rw [hb] at hc;obtain rfl:=zr hc;refine ⟨pth,v',mv,by rw [hd];exact hn,λq=>absurd q (by rw [hd];decide),?_,λ_=>N,O⟩;rw [uj (by rw [h.vlen];exact I)]
 ·have J:c≠b:=by
   intro e;subst e;obtain ⟨a1,a2⟩:=zy.1 hc;obtain ⟨a3,a4⟩:=zy.1 hb;exact G ((List.getElem_inj h.apart.2.2.1).1 (a2.trans a4.symm))
  exact ⟨qn,v1,M,E c _ _ h1 (Ab h1 h.tree dz) J dz,λq=>⟨(h2 q).1,F _ _ _ (h2 q).2⟩,by rw [uc (λe=>G e.symm)];exact h3.1,h3.2⟩
def Oa:∀(cs:List (List Int)) (K:Nat) (c:List Int),K<cs.length->(AM (cs.set K c):Int)=AM cs-(cs.getD K []).length+c.length
 |[],K,c,h=>by simp at h
 |a::r,0,c,_=>by simp [AM];omega
 |a::r,K+1,c,h=>by
  have ih:=Oa r K c (sU h);have e1:AM ((a::r).set (K+1) c)=a.length+AM (r.set K c):=by simp [AM]
  have e2:AM (a::r)=a.length+AM r:=by simp [AM]
  have e3:(a::r).getD (K+1) []=r.getD K []:=sI;rw [e1,e2,e3];omega
def BS.wrote (h:BS w B tb ab am p NB MB V oc) (hi:Ct lz p) {c':List Int} (hx:p.xs[i]? =some x) (hd:x.dir=false) (hb:NB[i]? =some b) (hc:p.cs[i]? =some c) (hv:V[i]? =some v)
  (ht:AE w' tb 173 [qP ab 0,iV p.xs.length,iV p.li,iV ((AM p.cs:Int)-c.length+c'.length),iV p.lb]) (hn:AE w' b 257 [.string pth,.bool false,v',mv,iV (oc x.id)]) (N:mv= .map none) (X:pth.size=0↔x.lost)
  (hf:C7 w w' S) (hS:∀k∈S,k=tb\/k=b\/w.heap.size<=k\/AV v=some k) (O:GQ w' B v' c') (G:∀R,AV v'=some R->w.heap.size<=R\/AV v=some R):BS w' B tb ab am {p with cs:=p.cs.set i c'} NB MB (V.set i v') oc:=by
 have M:=(zy.1 hx).1;have F:i<p.cs.length:=by rw [hi.len];exact M
 have C:i<V.length:=by rw [h.tree.vlen];exact M
 have I:∀R,AV v=some R->∃L,AE w R 5 L:=by
  intro R hR;rcases h.cont i v c hv hc with ⟨q,_⟩|⟨R',cp,T,q1,q2,_⟩
  ·rw [q] at hR;cases hR
  ·rw [q1] at hR;have:R'=R:=by simpa [AV] using hR
   subst this;exact ⟨_,q2⟩
 have Z:∃vs,AE w b 257 vs:=by
  obtain ⟨qn,v,mv,q,_⟩:=h.tree.node i x b MB[i]! hx hb (by rw [List.getElem!_eq_getElem?_getD];rw [zz (by rw [h.tree.len.2];exact M)];rfl);exact ⟨_,q⟩
 refine ⟨?_,λj u d hu H=> ?_,λj k u u' R hu D h1 h2=> ?_⟩
 ·have e:(AM (p.cs.set i c'):Int)=(AM p.cs:Int)-c.length+c'.length:=by
   rw [Oa p.cs i c' F,zk,hc];rfl
  show Bf w' B tb ab am p.li p.lb (AM (p.cs.set i c')) p.xs NB MB (V.set i v') oc;rw [e];refine h.tree.wrote hx hd hb ht hn N X hf λk hk=> ?_;rcases hS k hk with q|q|q|q
  ·exact .inl q
  ·exact .inr (.inl q)
  ·exact .inr (.inr (.inl q))
  ·exact .inr (.inr (.inr (I k q)))
 ·change (p.cs.set i c')[j]? =some d at H;by_cases J:j=i
  ·subst J;rw [uj C] at hu;rw [uj F] at H;obtain rfl:=zr hu;obtain rfl:=zr H;exact O
  ·rw [uc (λe=>J e.symm)] at hu H;refine (h.cont j u d hu H).block λR hR hl ⟨L,hL⟩=>hf.block R hl λe=> ?_;rcases hS R e with q|q|q|q
   ·exact Ab hL h.tree.tree dz q
   ·obtain ⟨vs,Y⟩:=Z;exact Ab hL Y dz q
   ·omega
   ·exact J (h.own j i u v R hu hv hR q)
 ·have E:∀(j:Nat) (u:Value),j≠i->V[j]? =some u->AV u=some R->R<w.heap.size/\AV v≠some R:=by
   intro j u hj hu hR;have U:j<p.cs.length:=by rw [hi.len,<-h.tree.vlen];exact (zy.1 hu).1
   refine ⟨?_,λe=>hj (h.own j i u v R hu hv hR e)⟩;rcases h.cont j u _ hu (zz U) with ⟨q,_⟩|⟨R',cp,T,q1,q2,_⟩
   ·rw [q] at hR;cases hR
   ·rw [q1] at hR;have:R'=R:=by simpa [AV] using hR
    subst this;exact q2.lt
  by_cases hj:j=i
  ·by_cases hk:k=i
   ·rw [hj,hk]
   ·subst hj;rw [uj C] at hu;obtain rfl:=zr hu;rw [uc (λe=>hk e.symm)] at D;obtain ⟨q1,q2⟩:=E k u' hk D h2;rcases G R h1 with q|q
    ·omega
    ·exact absurd q q2
  ·rw [uc (λe=>hj e.symm)] at hu;by_cases hk:k=i
   ·subst hk;rw [uj C] at D;obtain rfl:=zr D;obtain ⟨q1,q2⟩:=E j u hj hu h1;rcases G R h2 with q|q
    ·omega
    ·exact absurd q q2
   ·rw [uc (λe=>hk e.symm)] at D;exact h.own j k u u' R hu D h1 h2
end
end Go.Proofs.YtpcjkidgohpeoaaGreatDoor
