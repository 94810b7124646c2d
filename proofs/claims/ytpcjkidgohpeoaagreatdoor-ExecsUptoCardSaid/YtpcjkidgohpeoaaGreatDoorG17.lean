import Derived.Test.YtpcjkidgohpeoaaGreatDoorG14
import Derived.Test.YtpcjkidgohpeoaaGreatDoorG15
import Derived.Maps.RangeWalk
import Derived.Laws.Cover1
set_option maxRecDepth 100000
set_option maxHeartbeats 8000000
set_option linter.all false
namespace Go.Proofs.YtpcjkidgohpeoaaGreatDoor
open RowKit Maps Proofs.Tryz
variable {w w':World} {pb B ag n:Nat} {row:Option Nat} {f:AQ} {FL:List AQ}
def Ef (cb:Nat):Value:= .iface 97 (qP cb 0)
def FJ (cb k:Nat):List Value:=List.replicate k (Ef cb)++List.replicate (8-k) .nilIface
def Vy (cb k:Nat) (h:k<8):(FJ cb k).set k (Ef cb)=FJ cb (k+1):=by
 unfold FJ;have e:=Qg (A:=List.replicate k (Ef cb)) (B:=List.replicate (8-k) Value.nilIface) (n:=k) (j:=0) tz (Ef cb);rw [sq] at e;rw [e,show 8-k=(8-(k+1))+1 by omega,ri,zh,List.replicate_succ',xu];rfl
def iU {E:Int} {R:List Int} {S:List Value} {pid par st su wk:Int} {fds:List Value} (hR:R.length=16) (hS:S.length=65792) (k:Nat) (v:Value):(AX E R S pid par st su wk fds).set (65814+k) v=AX E R S pid par st su wk (fds.set k v):=by
 unfold AX;rw [show 65814+k=65809+(5+k) by omega,Qg (Bj hR hS)];congr 1;exact Qg rfl v
def C5:Co.length=16:=by unfold Co;exact tz
def Qh (pid par:Int) (cb:Nat) (w:World):
  cT 34 #[iV pid,iV par,qP cb 0] w λe w'=>e= .returned (qP w.heap.size 0)/\Bw w w'/\AE w' w.heap.size 193 (AX 0 Co Af pid par 0 0 0 (FJ cb 3)):=by
 have I:=iT pid par;obtain ⟨W1,C⟩:=xE (w.alloc (.cells (AX 0 Co Af pid par 0 0 0 GA).toArray 193));have h1:AE W1 w.heap.size 193 (AX 0 Co Af pid par 0 0 0 (FJ cb 0)):=by rw [C];exact AE.new w 193 _
 have D:Bw w W1:=by rw [C];exact bA
 obtain ⟨H,H1,G⟩:=H3 C h1 D;clear C h1 D;go_enter func34,ntmps34
 go_upto_region 2 with fail
 rw [<-AB H];clear I;go_wp2
 go_loopw [13] (λi wr=>∃k:Nat,k<=3/\i= iV k/\Hid (AE wr w.heap.size 193 (AX 0 Co Af pid par 0 0 0 (FJ cb k)))/\Hid (Bw w wr)) (λi _=>3-(intOf i).toNat)
 case atStart=>exact ⟨0,om,rfl,H1,G⟩
 case round=>
  obtain ⟨k,hk,rfl,HR,HB⟩:=hrel;by_cases J:k<3
  ·have N:(0:Int)<=(k:Int):=om;have L:(k:Int)<3:=om;have O:(k:Int)<8:=om
   have E:(wr.cell? (xK w.heap.size (65814+k))).isSome=true:=by
    have hl:(AX 0 Co Af pid par 0 0 0 (FJ cb k)).length=65822:=by
     unfold AX;rw [zm,Bj C5 CY];unfold FJ;simp;omega
    rw [HR.cell (zz (show 65814+k<_ by rw [hl];omega))];rfl
   obtain ⟨ov,M⟩:=Option.isSome_iff_exists.1 E;have R:=HR.frozen (65814+k)
   have HN:=AC (show AE (wr.setCell (xK w.heap.size (65814+k)) (Ef cb)) w.heap.size 193 (AX 0 Co Af pid par 0 0 0 (FJ cb (k+1)))/\Bw w (wr.setCell (xK w.heap.size (65814+k)) (Ef cb)) from by
    refine ⟨?_,HB.setCell (p:=(xK w.heap.size (65814+k))) (zx _) _⟩;have:=HR.set (65814+k) (Ef cb);rw [iU C5 CY,Vy cb k om] at this
    exact this)
   unfold Ef at HN;clear E;go_wp2;exact ⟨⟨k+1,om,sI,AC HN.1,AC HN.2⟩,by simp only [intOf];omega⟩
  ·have F:k=3:=om;subst F;go_wp2;go_ret;exact ⟨rfl,AB HB,AB HR⟩
def Mf (pb:Nat):DataW Unit:= .map [(.int .i64 1,.lit (.int .i64 pb))]
def Ei (w:World) (pm pb:Nat):Prop:=w.ownsMap prog 3 Bp pm 1 (Mf pb)
def EP:Keyed prog 3:=int_keyed underlying3
def Ei.kept {pm:Nat} (h:Ei w pm pb) (hg:w.grownBy w' row) (C:some pm≠row):Ei w' pm pb:=World.ownsMap.kept h hg C
def TM {kl:Lit} (h:Maps.has (Mf pb) kl=true):kl= .int .i64 1:=by
 unfold Mf at h;rw [Maps.has_eq] at h;simp at h;exact (WideAt.sameKey_eq h).symm
def ic (pb:Nat) (zd:DataW Unit):(Mf pb).atKey (.int .i64 1) zd= .lit (.int .i64 pb):=rfl
def ZB (C:Value) (kl:Lit) (h:keyOf prog 3 C=some kl):∃x,C=Value.int .i64 x:=by
 obtain ⟨x,rfl,_⟩:=Maps.keyOf_int_inv underlying3 h;exact ⟨x,rfl⟩
def UW (v:Value) (y:DataW Unit×List MemPlace) (h:Bp v=some y):∃c,v=BF c:=by
 unfold Bp at h;split at h
 ·exact ⟨none,rfl⟩
 ·rename_i b
  exact ⟨some b,rfl⟩
 ·cases h
def lk {x:Int} {kl:Lit} (h:keyOf prog 3 (.int .i64 x)=some kl) (hk:kl= .int .i64 1):x=1:=by
 obtain ⟨y,e,h2,_⟩:=Maps.keyOf_int_inv underlying3 h;have hx:x=y:=sU e;rw [hk] at h2;have hy:1=y:=sU h2;omega
def Qo {c:Option Nat} {y:DataW Unit×List MemPlace} (h:Bp (BF c)=some y) (hy:y.1= .lit (.int .i64 pb)):c=some pb:=by
 cases c with
 |none=>
  have:y=(.nil,[]):=(zr h).symm
  rw [this] at hy;cases hy
 |some b=>
  have:y=(.lit (.int .i64 b),[]):=(zr h).symm;rw [this] at hy;injection hy with hy;injection hy with _ hy;have:b=pb:=om;rw [this]
def Im (lp lf lo li lb:Int) (tb cb pm:Nat):List Value:=[.int .i64 lp,.int .i64 lf,.int .i64 lo,.int .i64 li,.int .i64 lb,qP tb 0,qP cb 0,.int .i64 0,sN,.map (some pm)]
def Hy (w:World) (pb:Nat) (PS:List Pg):Prop:=∀j:Nat,j<256->w.cell? (xK pb (17+j*257))=some (.int .u8 (DR PS j))
def Hy.below {PS:List Pg} (h:Hy w pb PS) (hb:Bw w w') (hl:pb<w.heap.size):Hy w' pb PS:=λj hj=>by rw [hb.cell (p:=(xK pb (17+j*257))) hl];exact h j hj
def ZC (kb pm pb:Nat) (lp lf lo li lb:Int) (tb cb:Nat) (PS:List Pg) (w:World) (hk:AE w kb 110 (Im lp lf lo li lb tb cb pm)) (hm:Ei w pm pb) (N:pb<w.heap.size) (hp:Hy w pb PS) (Y:Bc PS) (hn:PS.length<=256):
  cT 132 #[qP kb 0] w λe w'=>e= .returned (.int .i64 (PS.length:Nat))/\Bw w w':=by
 have c9:cE w kb 9 (.map (some pm)):=hk.cell rfl;obtain ⟨HM,HP,a1⟩:=H3 hm hp Y;have a6:=AC (xi N (show pm<w.heap.size from World.ownsMap.lt hm));have HN:=AC hn;clear hk hm hp Y N hn;go_enter func132,ntmps132
 go_wp2_with (first|(at_range;refine wpList_range_own _ rfl _ 104 rfl 3 102 EP underlying104 Bp pm 1 (Mf pb) rfl HM ?_;intro w0 I E a4)|go_in)
 have a3:=AC I;have a0:=AC (show Bw w w0 from ⟨E.os,E.tape,E.output,E.size,λk hk=>E.block k hk sI⟩);clear I E a4 c9
 go_frame
 go_loopw [3] (λc wr=>∃(left:Lit->Bool) (D:Nat),Hid (wr.ranges prog 3 Bp pm w.heap.size 1 (Mf pb) left D)/\Hid (∀kl,left kl=true->kl= .int .i64 1)/\Hid (D=1/\c= .int .i64 0\/D=0/\c= .int .i64 (PS.length:Nat))/\Hid (Bw w wr)) (λ_ wr=>wr.rangeLeft pm w.heap.size)
 case atStart=>exact ⟨_,_,a3,AC (λkl h=>TM h),AC (.inl ⟨rfl,rfl⟩),a0⟩
 case round=>
  obtain ⟨left,D,M,T,R,HB⟩:=hrel
  go_wp2_with (first
   |(at_next;refine wpList_next_ranges _ rfl _ rfl 3 EP Bp (Value.int .i64) BF ZB UW pm w.heap.size 1 (Mf pb) left D rfl M ?_ ?_)
   |go_in)
  ·intro a9 b0
   obtain rfl:u3= .int .i64 (PS.length:Nat):=by
    rcases AB R with ⟨q,_⟩|⟨_,q⟩
    ·omega
    ·exact q
   go_wp2;go_ret;exact ⟨rfl,AB HB⟩
  ·intro x c kl y1 y2 w1 L F X hv O G Z C a5 U;have a2:=AB T kl X;subst a2;obtain rfl:=lk F rfl;obtain rfl:=Qo hv (show y1=_ by rw [<-O .nil];exact ic pb .nil)
   obtain ⟨rfl,rfl⟩:D=1/\u3= .int .i64 0:=by
    rcases AB R with q|⟨q,_⟩
    ·exact q
    ·omega
   have J:Bw w w1:=HB.trans ⟨C.os,C.tape,C.output,C.size,λk hk=>C.block k (o1 HB.size) sO⟩;have V:=AC (G1 pb 17 PS w1 a1 (HP.below J a6.1));have H:=AC G;have a7:=AC J;have hn:=AB HN;have b1:(PS.length:Int)<=256:=om;have a8:L=0:=om;clear F X hv O G Z C a5 J hn;unfold BF at U ⊢
   go_wp2_with fail
   refine V.mono ?_;rintro e w2 ⟨rfl,rfl⟩;clear U V;go_wp2;subst a8
   exact ⟨⟨_,_,H,AC (λkl h=>by
    have:=(ug _ _▸h:left kl=true/\(!kl.sameKey (.int .i64 1))=true)
    exact AB T kl this.1),AC (.inr ⟨rfl,sI⟩),a7⟩,by rw [H.left_eq,M.left_eq];omega⟩
structure bV (w:World) (fb foff:Nat) (FZ:List AQ):Prop where
 path:∀(i:Nat) (f:AQ),FZ[i]? =some f->w.cell? (xK fb (foff+i*3))=some (.string f.path)
 dir:∀(i:Nat) (f:AQ),FZ[i]? =some f->w.cell? (xK fb (foff+i*3+1))=some (.bool f.dir)
 bytes:∀(i:Nat) (f:AQ),FZ[i]? =some f->∃a q o c,w.cell? (xK fb (foff+i*3+2))=some (.slice a f.bytes.length c)/\(0<f.bytes.length->a=some (xK q o)/\q<w.heap.size)/\Am w q o f.bytes
def Hz (lp lf lo li lb:Int) (v:Value):List Value:=[iV lp,iV lf,iV lo,iV li,iV lb,v]
def Fc (f:AQ):Nat:=f.path.size+f.bytes.length
def Dy (FZ:List AQ) (j:Nat):Nat:=((FZ.take j).map Fc).sum
def LC {FZ:List AQ} {j:Nat} (h:FZ[j]? =some f):Dy FZ (j+1)=Dy FZ j+Fc f:=by
 unfold Dy;rw [uw,h];simp
def Od {FZ:List AQ} {M:Nat} (hb:∀f∈FZ,Fc f<=M):∀j,Dy FZ j<=j*M
 |0=>by simp [Dy]
 |j+1=>by
  have h2:=Od hb j;rw [Nat.succ_mul]
  cases h:FZ[j]? with
  |none=>
   have e:FZ.take (j+1)=FZ.take j:=by rw [uw,h];simp
   have e2:Dy FZ (j+1)=Dy FZ j:=by unfold Dy;rw [e]
   omega
  |some f=>
   have h1:=hb f (zv h);rw [LC h];omega
def Pe (FZ:List AQ):Bool:=decide (FZ.length<=100)&&decide ((FZ.map Fc).sum<=200000)
def eF:eN 60:=enters_of func60 kf rfl
def ZE:eN 28:=enters_of func28 kf rfl
structure Az where
 a:Option Addr
 q:Nat
 o:Nat
 c:Nat
structure Mg (w:World) (B ag i:Nat) (f:AQ) (l:Az):Prop where
 path:w.cell? (xK ag (i*3))=some (.string f.path)
 dir:w.cell? (xK ag (i*3+1))=some (.bool f.dir)
 bytes:w.cell? (xK ag (i*3+2))=some (.slice l.a f.bytes.length l.c)
 loc:0<f.bytes.length->l.a=some (xK l.q l.o)/\B<=l.q/\l.q<w.heap.size/\l.q≠ag
 view:Am w l.q l.o f.bytes
 free:∀k,k<f.bytes.length->w.frozen? (xK l.q (l.o+k))=false
structure DV (w:World) (B ag n:Nat) (FL:List AQ) (LS:List Az):Prop where
 len:LS.length=FL.length
 at_:∀(i:Nat) (f:AQ) (l:Az),n<=i->FL[i]? =some f->LS[i]? =some l->Mg w B ag i f l
 apart:∀(i j:Nat) (f:AQ) (l m:Az),FL[i]? =some f->LS[i]? =some l->LS[j]? =some m->i≠j->0<f.bytes.length->l.q≠m.q
def Mg.other {i:Nat} {l:Az} (h:Mg w B ag i f l) (hg:w.grownBy w' row) (h1:some ag≠row) (h2:0<f.bytes.length->some l.q≠row):Mg w' B ag i f l:=by
 have hs:=hg.size;refine ⟨hg.cell h.path h1,hg.cell h.dir h1,hg.cell h.bytes h1,λh0=> ?_,λj hj=>hg.cell (h.view j hj) (h2 om),λk hk=> ?_⟩
 ·obtain ⟨a,b,c,d⟩:=h.loc h0;exact ⟨a,b,om,d⟩
 ·rw [hg.frozen_far _ (h.loc om).2.2.1 (h2 om)];exact h.free k hk
def DV.below {LS:List Az} (h:DV w B ag n FL LS) (hb:Bw w w'):DV w' B ag n FL LS:=
 ⟨h.len,λi f l hi hf hl=>(h.at_ i f l hi hf hl).other (row:=none) ⟨hb.os,hb.tape,hb.output,hb.size,λk hk _=>hb.block k hk⟩ sI (λ_=>sI),h.apart⟩
def DV.next {LS:List Az} (h:DV w B ag n FL LS):DV w B ag (n+1) FL LS:=⟨h.len,λi f l hi=>h.at_ i f l om,h.apart⟩
def DV.rest {LS:List Az} (h:DV w B ag n FL LS) {l:Az} (hf:FL[n]? =some f) (hl:LS[n]? =some l) (h0:0<f.bytes.length) (hg:w.grownBy w' (some l.q)):DV w' B ag (n+1) FL LS:=by
 have hn:=h.at_ n f l (zx _) hf hl;refine ⟨h.len,λi g m hi C hm=> ?_,h.apart⟩;exact (h.at_ i g m om C hm).other hg (by simp;exact λe=>(hn.loc h0).2.2.2 e.symm) (λ_=>by simp;exact λe=>h.apart n i f l m hf hl hm om h0 e.symm)
def DW (w:World) (FL:List AQ) (e:Ending) (w':World):Prop:=
 ∃aa ag ac LS,e= .returned (.slice aa FL.length ac)/\(0<FL.length->aa=some (xK ag 0)/\ag<w'.heap.size)/\Bw w w'/\DV w' w.heap.size ag 0 FL LS
def Gg (x:Ino):Bool:= !(x.parent==0)
def Ej (xs:List Ino) (n:Nat):Nat:=((xs.take n).filter Gg).length
def Uc {xs:List Ino} {x:Ino} (h:xs[n]? =some x):Ej xs (n+1)=Ej xs n+if Gg x=true then 1 else 0:=by
 unfold Ej;rw [uw,h,List.filter_append,zm];cases hx:Gg x<;>simp [hx]
def Qr (xs:List Ino) (n:Nat):Ej xs n<=n:=by
 unfold Ej;have h1:=List.length_filter_le Gg (xs.take n);have h2:=List.length_take_le n xs;omega
def Nd (FL:List AQ):Nat->ByteArray
 |0=>ByteArray.empty
 |n+1=>match FL[n]? with|some f=>f.path|none=>ByteArray.empty
structure WU (xs:List Ino) (cs:List (List Int)) (FL:List AQ):Prop where
 each:∀(i:Nat) (x:Ino) (c:List Int),xs[i]? =some x->cs[i]? =some c->x.parent≠0->∃J:Nat,FL[J]? =some ⟨C6 xs x.id,x.dir,c⟩/\∀(j:Nat) (f:AQ),FL[j]? =some f->(f.path.toList==(C6 xs x.id).toList)=true->j=J
 count:Ej xs xs.length=FL.length
 sorted:∀(m:Nat) (f:AQ),FL[m]? =some f->Op.bytesLess f.path.toList (Nd FL m).toList=false/\(f.path.toList==(Nd FL m).toList)=false
def Iy.below {v:Value} {PL:List Nat} (h:Iy w v PL) (hb:Bw w w'):Iy w' v PL:=by
 obtain ⟨a,c,hv,hp⟩:=h;refine ⟨a,c,hv,λi n hn=> ?_⟩;obtain ⟨gp,b,d,ha,hl,hc⟩:=hp i n hn;exact ⟨gp,b,d,ha,o1 hb.size,by rw [hb.cell (p:=(xK gp (i*31+22))) hl];exact hc⟩
def eG {w1:World} (wr:World) {l:Az} {c:List Int} {xa:Option Addr} {xd:Nat} (hv:Am w1 l.q l.o c) (J:0<c.length->l.a=some (xK l.q l.o)) (H:0<c.length->l.q<w1.heap.size)
  (C:∀b o,b<w1.heap.size->wr.cell? (xK b o)=w1.cell? (xK b o)) (F:Iz w (.slice xa c.length xd) c) (E:Bw w w1) (L:c.length<=1000000):
  ∀(lc:Nat) (w':World),w'.heap=wr.heap->cT 28 #[.slice l.a c.length lc,.slice xa c.length xd] w' λe w2=>e= .returned (.bool true)/\w2.heap=w'.heap/\Bw w' w2:=by
 intro lc w' G;have D:∀a,w'.cell? a=wr.cell? a:=λa=>by unfold World.cell?;rw [G]
 obtain ⟨q,o,hq,I⟩:∃q o,(0<c.length->xa=some (xK q o))/\Am w' q o c:=by
  rcases F with ⟨h0,_⟩|⟨_,q,hq,hh⟩
  ·subst h0;exact ⟨0,0,λh=>by simp at h,λj hj=>by simp at hj⟩
  ·simp only [Value.slice.injEq] at hq;refine ⟨q,0,λ_=>hq.1,λj hj=> ?_⟩;have M:=hh.lt;rw [D,C _ _ (o1 E.size),E.cell (p:=(xK q (0+j))) M,zq];exact hh.bytes j hj
 exact Jf l.a xa l.q l.o lc q o xd c w' J hq (λj hj=>by rw [D,C _ _ (H om)];exact hv j hj) I L
def eI (wb base kb g c3:Nat) (kp:Option Addr) (k:RK) (cs:List (List Int)) (PL:List Nat) (oa:Option Addr) (on oc:Nat) (FL:List AQ) (w:World)
  (l6:cE w wb 0 (.pointer kp)) (c5:cE w wb 1 (qP kb 0)) (c2:wb<w.heap.size)
  (hr:EB w base kb g c3 k) (hc:DA w k.inos cs) (ht:MZ k.inos) (m9:k.inos.length<=10000) (a8:∀x∈k.inos,x.id<=1000000) (a6:AM cs<=1000000)
  (hf:cT 59 #[.pointer kp] w (DW w FL)) (f0:WU k.inos cs FL) (f5:∀f∈FL,f.bytes.length<=1000000)
  (hP:Iy w k.pv PL) (hO:k.ov= .slice oa on oc) (k5:PL.length<=100000) (b6:PL.sum<=10000000)
  (hu:∀w',Bw w w'->cT 61 #[.pointer kp] w' λe w2=>e= .returned (.agg (BK PL.length PL.sum on k.inos.length (AM cs)).toArray)/\Bw w' w2):
  cT 30 #[qP wb 0] w λe w'=>e= .returned (.bool true)/\Bw w w':=by
 have h6:=hr.1.lt;have f9:=(hr.2.lt g rfl).2;have m6:FL.length<=10000:=by have h1:=f0.count;have h2:=Qr k.inos k.inos.length;omega
 obtain ⟨HF,HR,HC,HT,c1,d6,l4,HU⟩:=H8 hf hr hc ht a8 f0 f5 hu;have HP:=AC hP;have HO:=AC hO;clear hf hr hc ht a8 f0 f5 hu hP hO;go_enter func30,ntmps30
 go_wp2_with fail
 refine HF.mono ?_;rintro e w1 ⟨aa,ag,ac,LS,rfl,O,c4,b6⟩;obtain ⟨b9,a9,b8⟩:=H3 O c4 b6;have l2:=c4.size;clear HF O c4 b6;go_wp2
 go_loopw [4,6] (λn i wr=>∃j:Nat,j<=k.inos.length/\i= iV j/\n= iV (Ej k.inos j)/\Hid (Bw w1 wr)) (λ_ i _=>k.inos.length-(intOf i).toNat)
 case atStart=>exact ⟨0,om,rfl,rfl,AC (zw _ _)⟩
 case round=>
  obtain ⟨j,hj,rfl,rfl,HB⟩:=hrel;have m4:=HB.size;have E:∀b o,b<w.heap.size->wr.cell? (xK b o)=w.cell? (xK b o):=λb o hb=>by rw [HB.cell (p:=(xK b o)) (by show b<w1.heap.size;omega),a9.cell (p:=(xK b o)) hb]
  have d1:wr.cell? (xK wb 1)=some (qP kb 0):=by rw [E _ _ c2];exact c5
  have d7:wr.cell? (xK kb 7)=some (sL g 0 k.inos.length c3):=by rw [E _ _ h6];exact HR.1.cell rfl
  have i5:=Qr k.inos j;by_cases c6:j<k.inos.length
  ·obtain ⟨x,hx⟩:∃x,k.inos[j]? =some x:=⟨_,zz c6⟩;have a0:∀i v,i<5->(BQ x)[i]? =some v->wr.cell? (xK g (j*5+i))=some v:=λi v hi hv=>by rw [E _ _ f9];exact HR.at.cell hx hi hv
   have x0:wr.cell? (xK g (j*5))=some (iV x.id):=by have:=a0 0 _ om rfl;rwa [sq] at this
   have x1:=a0 1 _ om rfl;have x2:=a0 2 _ om rfl;have x3:=a0 3 _ om rfl;have x4:=a0 4 _ om rfl;obtain ⟨c,a3⟩:∃c,cs[j]? =some c:=⟨_,zz (by rw [HC.1];exact c6)⟩;have b3:=HC.2 j x c hx a3;obtain ⟨xa,xd,c0⟩:=b3.len;rw [c0] at x4;have m2:(0:Int)<=(j:Int):=om;have m3:(j:Int)<(k.inos.length:Int):=om;have a6:=Uc hx;by_cases hp:x.parent=0
   ·have d3:=AC (show Ej k.inos (j+1)=Ej k.inos j from by rw [a6,vz (show ¬Gg x=true from by simp [Gg,hp])];rfl);have F:=AC (HB.alloc om (Obj.cells #[iV x.id,iV 0,.string x.name,.bool x.dir,.slice xa c.length xd] 126));rw [hp] at x1;generalize hxi:x.id=XI at x0 F;generalize hxn:x.name=XN at x2 F;generalize hxd:x.dir=XD at x3 F;generalize c.length=CL at x4 F;clear E a0 a6 hp hx hxi hxn hxd c0 b3 a3;go_wp2
    go_roundw
    case rel=>exact ⟨j+1,om,by go_num,by rw [AB d3],F⟩
    case measure=>simp [intOf];omega
   ·have k8:(x.parent==0)=false:=sU hp;have d3:=AC (a6.trans (by rw [vu (show Gg x=true from by simp [Gg,hp])]));obtain ⟨J,hJ,c7⟩:=d6.each j x c hx a3 hp;have k1:=(zy.1 hJ).1;obtain rfl:=(AB b9 om).1;have O:=(AB b9 om).2;have c9:=zv hx;have b7:=AC (λ(w':World) (h:Bw w w')=>V4 kb g c3 k.inos x.id w' (HR.at.below h h6 f9) om HT (λ_=>⟨x,c9,rfl⟩) (AB c1 x c9));obtain ⟨PT,f4⟩:=xE (C6 k.inos x.id);rw [<-f4] at hJ c7 b7;obtain ⟨HJ,i6,l7⟩:=H3 hJ c7 b3;have F:=AC (HB.alloc om (Obj.cells #[iV x.id,iV x.parent,.string x.name,.bool x.dir,.slice xa c.length xd] 126));have g1:=AC (AE.new wr 126 [iV x.id,iV x.parent,.string x.name,.bool x.dir,.slice xa c.length xd]);obtain ⟨W2,N⟩:=xE (wr.alloc (Obj.cells #[iV x.id,iV x.parent,.string x.name,.bool x.dir,.slice xa c.length xd] 126));rw [<-N] at F
    have I:=AC (show AE W2 wr.heap.size 126 [iV x.id,iV x.parent,.string x.name,.bool x.dir,.slice xa c.length xd] from by rw [N];exact AB g1);have m0:=AC c0;have i2:=AC a3;have d2:∃D,D=x.dir:=⟨_,rfl⟩;obtain ⟨XD,f8⟩:=d2;rw [<-f8] at x3 HJ I N;generalize x.id=XI at x0 I N b7;generalize x.parent=XP at x1 I N k8;generalize x.name=XN at x2 I N;have i8:=AC N;have L:∀b o,b<w1.heap.size->W2.cell? (xK b o)=w1.cell? (xK b o):=λb o hb=>F.cell (p:=(xK b o)) hb;have z0:=I.cell (j:=0) rfl;have z1:=I.cell (j:=1) rfl;have z3:=I.cell (j:=3) rfl;have z4:=I.cell (j:=4) rfl;obtain ⟨XW,f3⟩:=xE wr.heap.size;have l1:Hid (∀A:Act,A.eval (.tmp 7)= qP wr.heap.size 0->A.eval (.tmp 7)= qP XW 0):=λA h=>by rw [f3];exact h
    have j3:=AC (show ∀w',Bw W2 w'->∀w'',Bw w' w''->(Instr.loadAt 36 (qP XW 4)).run prog w''= .ok (.slice xa c.length xd) w'' from λw' h w'' h2=>by
     rw [f3];have hl:=I.lt;have cc:w''.cell? (xK wr.heap.size 4)=some (.slice xa c.length xd):=by rw [h2.cell (p:=(xK wr.heap.size 4)) (by have:=h.size;show wr.heap.size<w'.heap.size;omega),h.cell (p:=(xK wr.heap.size 4)) hl];exact z4
     go_simp)
    clear f3
    have HZ:=AC (show ∀w',Bw W2 w'->w'.cell? (xK wr.heap.size 3)=some (.bool XD)/\w'.cell? (xK wr.heap.size 4)=some (.slice xa c.length xd) from λw' h=>by
     have hl:=I.lt
     exact ⟨by rw [h.cell (p:=(xK wr.heap.size 3)) hl];exact z3,by rw [h.cell (p:=(xK wr.heap.size 4)) hl];exact z4⟩)
    have y1:W2.cell? (xK wb 1)=some (qP kb 0):=by rw [L _ _ om,a9.cell (p:=(xK wb 1)) c2];exact c5
    have g7:Bw w W2.drew:=a9.trans (show Below w.heap.size w1 W2.drew from ⟨F.os,F.tape,F.output,F.size,λq hq=>F.block q om⟩);have g8:=AC (AB b7 W2.drew g7);clear E a0 a6 hp hx c9 c0 b3 a3 hJ c7 f4 N g1 b7 L g7 f8
    go_upto_region 8 with fail
    rw [<-AB i8];clear x0 x1 x2 x3 x4 d1 d7
    go_upto_region 10 with fail
    have L1:=AC (show ∀w',Bw W2 w'->(Instr.loadAt 45 (qP wb 1)).run prog w'= .ok (qP kb 0) w' from λw' h=>by
     have c8:wb<W2.heap.size:=o1 F.size;have c:w'.cell? (xK wb 1)=some (qP kb 0):=by rw [h.cell (p:=(xK wb 1)) c8];exact y1
     go_simp)
    have L2:=AC (show ∀w',Bw W2 w'->(Instr.loadAt 3 (qP wr.heap.size 0)).run prog w'= .ok (iV XI) w' from λw' h=>by
     have c:w'.cell? (xK wr.heap.size 0)=some (iV XI):=by rw [h.cell (p:=(xK wr.heap.size 0)) I.lt];exact z0
     go_simp)
    have S0:Bw W2 W2.drew:=⟨rfl,rfl,rfl,zx _,λ_ _=>rfl⟩;refine Ak ?_;intro A hA;have e0:A.eval (.tmp 0)= qP wb 0:=eH hA;have e7:A.eval (.tmp 7)= qP wr.heap.size 0:=eH hA;have b2:A.tmps.size=180:=eZ hA;have HA:=AC hA;clear hA;refine xf (S:=λw'=>Bw W2 w') kf S0 (λhS=> ?_);refine tq 0 48 rfl (yM (qP wb 0)) hS (tq 1 49 rfl (yN (xK wb 0)) hS (tq 2 50 rfl (yF (qP wb 0) (qP wb 1)) hS (tq 3 51 rfl (yl L1) hS (tq 4 52 rfl (yF (qP wr.heap.size 0) (qP wr.heap.size 0)) hS (tq 5 53 rfl (yl L2) hS ?_)))));refine rdy [6] kf (vq rfl (λK hK=> ?_) vr)
    refine JB rfl 60 51 53 _ _ rfl (qP kb 0) (iV XI) sE sE eF _ (.string PT) (λe w' h=>h.1) g8 (some 54) rfl ?_;rintro w3 ⟨_,rfl⟩;refine hK.out _ _ S0 (λ_=> ?_);clear hK K;refine tq 7 8 rfl (Bm rfl (v:= .string PT) (λw' _=>by simp only [execOp];simp [Ae,AU,b2])) S0 ?_;refine vg kf ?_ _;rw [AB HA];simp only [Act.put,zl,zh,zi];clear HA e0 e7 b2 L1 L2 S0 hS;clear z0 z1 z3 z4 y1 g8 HB;go_wp2
    go_loopw [9,10] (λth jj wq=>∃m:Nat,m<=FL.length/\jj= iV m/\th= .bool (decide (J<m))/\Hid (Bw W2 wq)) (λ_ jj _=>FL.length-(intOf jj).toNat)
    case atStart=>exact ⟨0,om,rfl,sI,AC ⟨rfl,rfl,rfl,zx _,λ_ _=>rfl⟩⟩
    case round=>
     obtain ⟨m,hm,rfl,rfl,T⟩:=hrel;have j2:=T.size;have b0:=F.size;by_cases a5:m<FL.length
     ·obtain ⟨f,hf⟩:∃f,FL[m]? =some f:=⟨_,zz a5⟩;obtain ⟨l,hl⟩:∃l,LS[m]? =some l:=⟨_,zz (by rw [b8.len];exact a5)⟩;have G:=b8.at_ m f l (Nat.zero_le _) hf hl;have C:∀b o,b<w1.heap.size->wr.cell? (xK b o)=w1.cell? (xK b o):=λb o hb=>by rw [T.cell (p:=(xK b o)) (by show b<W2.heap.size;omega),F.cell (p:=(xK b o)) hb]
      have p0:wr.cell? (xK ag (m*3))=some (.string f.path):=by rw [C _ _ O];exact G.path
      have p1:wr.cell? (xK ag (m*3+1))=some (.bool f.dir):=by rw [C _ _ O];exact G.dir
      have p2:wr.cell? (xK ag (m*3+2))=some (.slice l.a f.bytes.length l.c):=by rw [C _ _ O];exact G.bytes
      have j8:(0:Int)<=(m:Int):=om;have l9:(m:Int)<(FL.length:Int):=om;by_cases d5:m=J
      ·subst d5;rw [AB HJ] at hf;obtain rfl:=zr hf;have m1:c.length<=1000000:=by have h1:=Ka i2;omega
       have i4:=AC (eG wr (l:=l) (c:=c) (xa:=xa) (xd:=xd) G.view (λh0=>(G.loc h0).1) (λh0=>(G.loc h0).2.2.1) (λb o hb=>C b o hb) (by have h:=AB l7;rw [AB m0] at h;exact h) (AB a9) m1);have HD:Hid (decide (m<m+1)=true):=ve om;obtain ⟨h9,l3⟩:=AB HZ wr T;simp only at p0 p1 p2;clear C G hl hf
       go_upto_region 16 with fail
       have S0:Bw wr wr.drew:=⟨rfl,rfl,rfl,zx _,λ_ _=>rfl⟩
       have M1:=AC (show ∀w',Bw wr w'->(Instr.loadAt 36 (qP ag (m*3+2))).run prog w'= .ok (.slice l.a c.length l.c) w' from λw' h=>by
        have d9:ag<wr.heap.size:=om;have cc:w'.cell? (xK ag (m*3+2))=some (.slice l.a c.length l.c):=by rw [h.cell (p:=(xK ag (m*3+2))) d9];exact p2
        go_simp)
       have M2:=AC (AB j3 wr T);refine Ak ?_;intro A hA;have e3:A.eval (.tmp 3)= sL ag 0 FL.length ac:=eH hA;have k7:A.eval (.tmp 10)= iV m:=eH hA;have e7:=AB l1 A (by rw [hA];rfl);have b2:A.tmps.size=180:=eZ hA;have HA:=AC hA;clear hA;refine xf (S:=λw'=>Bw wr w') kf S0 (λhS=> ?_);refine tq 0 68 rfl (yM (sL ag 0 FL.length ac)) hS (tq 1 69 rfl (yM (iV m)) hS (tq 2 70 rfl (yJ (sL ag 0 FL.length ac) (iV m) (qP ag (m*3))) hS (tq 3 71 rfl (yF (qP ag (m*3)) (qP ag (m*3+2))) hS (tq 4 72 rfl (yl M1) hS (tq 5 73 rfl (yF (qP XW 0) (qP XW 4)) hS ?_)))));refine tq 6 74 rfl (yl M2) hS ?_;refine rdy [7] kf (vq rfl (λK hK=> ?_) vr)
       refine JB rfl 28 72 74 _ _ rfl (.slice l.a c.length l.c) (.slice xa c.length xd) sE sE ZE _ (.bool true) (λe w' h=>h.1) (AB i4 l.c wr.drew rfl) (some 75) rfl ?_;rintro w4 ⟨_,h3,i1⟩;have S4:Bw wr w4:=S0.trans i1;refine hK.out _ _ S4 (λ_=> ?_);clear hK K;refine tq 8 11 rfl (Bm rfl (v:= .bool true) (λw' _=>by simp only [execOp];simp [Ae,AU,b2])) S4 ?_;refine vg kf ?_ _;rw [AB HA];simp only [Act.put,zl,zh,zi];have j6:=AC h3;have k3:=AC S4;clear h3 i1 S4 HA e3 e7 k7 b2 M1 M2 S0 hS;have f1:∀a,w4.cell? a=wr.cell? a:=λa=>by unfold World.cell?;rw [AB j6];rfl
       have q1:w4.cell? (xK ag (m*3+1))=some (.bool XD):=by rw [f1];exact p1
       have q3:=h9;rw [<-f1] at q3;have H:Hid (Bw W2 w4):=T.trans (k3.mono j2);clear f1 p0 p1 p2 h9 l3;go_wp2
       go_quiet (fail)
       go_wp2
       go_roundw
       case rel=>exact ⟨m+1,om,by go_num,by rw [AB HD],AC ⟨H.os,H.tape,H.output,H.size,H.block⟩⟩
       case measure=>simp [intOf];omega
      ·have i3:(f.path.toList==PT.toList)=false:=by
        cases h:(f.path.toList==PT.toList) with
        |false=>rfl
        |true=>exact absurd (AB i6 m f hf h) d5
       have HD:Hid (decide (J<m)=decide (J<m+1)):=decide_eq_decide.2 om;generalize f.path=FP at p0 i3;clear C G hf hl d5 p1 p2;go_wp2
       go_roundw
       case rel=>exact ⟨m+1,om,by go_num,by rw [AB HD],T⟩
       case measure=>simp [intOf];omega
     ·have i7:m=FL.length:=om;subst i7;have g4:decide (J<FL.length)=true:=ve k1;rw [g4];have l0:Hid (Bw w1 wr):=F.trans (T.mono b0);clear g4;go_wp2
      go_roundw
      case rel=>exact ⟨j+1,om,by go_num,by rw [AB d3];go_num,l0⟩
      case measure=>simp [intOf];omega
  ·have l5:j=k.inos.length:=om;subst l5;rw [d6.count];have V:=AC (b8.below HB);have M:Hid (Bw w wr):=a9.trans (HB.mono l2);have b5:Hid (0<FL.length->ag<wr.heap.size):=λh=>o1 (AB b9 h).2;clear E i5 HB;go_wp2;clear d1 d7 c6
   go_loopw [5,12] (λla jj wq=>∃m:Nat,m<=FL.length/\jj= iV m/\la= .string (Nd FL m)/\Hid (DV wq w.heap.size ag m FL LS)/\Hid (Bw w wq)/\Hid (0<FL.length->ag<wq.heap.size)) (λ_ jj _=>FL.length-(intOf jj).toNat)
   case atStart=>exact ⟨0,om,rfl,rfl,V,M,b5⟩
   case round=>
    obtain ⟨m,hm,rfl,rfl,V,M,b5⟩:=hrel;have b0:=M.size;by_cases a5:m<FL.length
    ·obtain ⟨f,hf⟩:∃f,FL[m]? =some f:=⟨_,zz a5⟩;obtain ⟨l,hl⟩:∃l,LS[m]? =some l:=⟨_,zz (by rw [b8.len];exact a5)⟩;have G:=V.at_ m f l (zx _) hf hl;have O:=AB b5 om;obtain rfl:=(AB b9 om).1;have p0:=G.path;have p2:=G.bytes;have j8:(0:Int)<=(m:Int):=om;have l9:(m:Int)<(FL.length:Int):=om;obtain ⟨g2,f7⟩:=d6.sorted m f hf;have c1:=AC (show Nd FL (m+1)=f.path from by show (match FL[m]? with|some f=>f.path|none=>ByteArray.empty)=_;rw [hf]);obtain ⟨FP,g6⟩:=xE f.path;rw [<-g6] at p0 g2 f7 c1;generalize Nd FL m=LP at g2 f7 ⊢;obtain ⟨BL,Z⟩:=xE f.bytes.length;rw [<-Z] at p2;have k0:=AC Z;have k6:=AC (xi hf hl)
     obtain ⟨ρ,hρ1,hρ0⟩:∃ρ:Option Nat,(0<BL->ρ=some l.q)/\(¬0<BL->ρ=none):=by
      by_cases h0:0<BL
      ·exact ⟨some l.q,λ_=>rfl,λh=>absurd h0 h⟩
      ·exact ⟨none,λh=>absurd h h0,λ_=>rfl⟩
     have d4:=AC (xi hρ1 hρ0);have R:Hid (0<BL->l.a=some (xK l.q l.o)/\w.heap.size<=l.q/\l.q<wr.heap.size/\l.q≠ag):=λh=>G.loc (by rw [<-Z];exact h);have h5:Hid (∀b,b<BL->(∃x:Int,wr.cell? (xK l.q (l.o+b))=some (.int .u8 x))/\wr.frozen? (xK l.q (l.o+b))=false):=λb hb=>⟨⟨_,G.view b (by rw [<-Z];exact hb)⟩,G.free b (by rw [<-Z];exact hb)⟩;have m7:BL<=1000000:=by rw [Z];exact AB l4 f (zv hf)
     clear G hf hl g6 Z hρ1 hρ0;go_wp2;obtain ⟨d0,a4⟩:∃v:World,v=wr:=⟨_,rfl⟩;rw [<-a4] at V M b0 O R h5 p2 ⊢;clear a4
     go_loopw [13] (λi wq=>∃b:Nat,b<=BL/\i= iV b/\Hid (∀b,b<BL->(∃x:Int,wq.cell? (xK l.q (l.o+b))=some (.int .u8 x))/\wq.frozen? (xK l.q (l.o+b))=false)/\Hid (d0.grownBy wq ρ)/\Hid (wq.cell? (xK ag (m*3+2))=some (.slice l.a BL l.c))) (λi _=>BL-(intOf i).toNat)
     case atStart=>exact ⟨0,om,rfl,h5,AC (zj _ _),AC p2⟩
     case round=>
      obtain ⟨b,hb,rfl,HV,HG,HC⟩:=hrel;have x2:=AB HC;by_cases d8:b<BL
      ·obtain ⟨a8,k9,m8,j0⟩:=AB R om;rw [a8] at x2;obtain ⟨⟨X,v0⟩,v1⟩:=AB HV b d8;have m5:(0:Int)<=(b:Int):=om;have c4:(b:Int)<(BL:Int):=om
       have HN:=AC (λY:Int=>show (∀c,c<BL->(∃x:Int,(wr.setCell (xK l.q (l.o+b)) (.int .u8 Y)).drew.cell? (xK l.q (l.o+c))=some (.int .u8 x))/\(wr.setCell (xK l.q (l.o+b)) (.int .u8 Y)).drew.frozen? (xK l.q (l.o+c))=false)/\d0.grownBy (wr.setCell (xK l.q (l.o+b)) (.int .u8 Y)).drew ρ/\(wr.setCell (xK l.q (l.o+b)) (.int .u8 Y)).drew.cell? (xK ag (m*3+2))=some (.slice l.a BL l.c) from by
        refine ⟨λc hc=> ?_,?_,?_⟩
        ·obtain ⟨⟨x,u0⟩,u1⟩:=AB HV c hc;refine ⟨?_,(World.frozen?_setCell wr _ _ _).trans u1⟩;by_cases e:c=b
         ·subst e;exact ⟨Y,yx wr _ _ u0⟩
         ·exact ⟨x,(yy wr _ _ _ (by simp<;>omega)).trans u0⟩
        ·have hg:=AB HG;rw [d4.1 om] at hg ⊢;have h:=AI hg (l.o+b) (.int .u8 Y);exact ⟨h.os,h.tape,h.output,h.size,h.block⟩
        ·rw [a8]
         exact (World.cell?_setCell_far wr _ _ _ (sU j0)).trans x2)
       go_wp2
       go_region
       clear x2 v0 v1;go_wp2
       go_roundw
       case rel=>exact ⟨b+1,om,by go_num,AC (AB HN _).1,AC (AB HN _).2.1,AC (AB HN _).2.2⟩
       case measure=>simp [intOf];omega
      ·have g5:=AC (show DV wr w.heap.size ag (m+1) FL LS/\Bw w wr from by
        obtain ⟨hf,hl⟩:=AB k6;by_cases h0:0<BL
        ·have hg:=AB HG;rw [d4.1 h0] at hg;have k9:=(AB R h0).2.1;exact ⟨V.rest hf hl (by rw [<-AB k0];exact h0) hg,M.trans ⟨hg.os,hg.tape,hg.output,hg.size,λk hk=>hg.block k om sO⟩⟩
        ·have hg:=AB HG;rw [d4.2 h0] at hg;have f6:Bw d0 wr:=⟨hg.os,hg.tape,hg.output,hg.size,λk hk=>hg.block k hk sI⟩
         exact ⟨(V.below f6).next,M.trans (f6.mono b0)⟩)
       have j9:Hid (0<FL.length->ag<wr.heap.size):=λ_=>o1 HG.size;go_wp2
       go_roundw
       case rel=>exact ⟨m+1,om,by go_num,by rw [AB c1],AC g5.1,AC g5.2,j9⟩
       case measure=>simp [intOf];omega
    ·have u1:wr.cell? (xK wb 0)=some (.pointer kp):=by rw [M.cell (p:=(xK wb 0)) c2];exact l6
     have h7:=AC (AB HU wr M);clear HU V b5
     go_wp2_with fail
     refine h7.mono ?_;rintro e w5 ⟨rfl,h8⟩;have U:Bw w w5:=M.trans (h8.mono b0);have l8:=AC U;have j5:=U.size;clear h8 U u1 h7 M;unfold BK;obtain ⟨W6,b4⟩:=xE (w5.alloc (Obj.cells #[iV PL.length,iV PL.sum,iV on,iV k.inos.length,iV (AM cs)] 23));have a7:Bw w W6:=by rw [b4];exact l8.alloc j5 _
     have g9:AE W6 w5.heap.size 23 [iV PL.length,iV PL.sum,iV on,iV k.inos.length,iV (AM cs)]:=by rw [b4];exact AE.new w5 23 _
     have v1:W6.cell? (xK wb 1)=some (qP kb 0):=by rw [a7.cell (p:=(xK wb 1)) c2];exact c5
     have j7:=AC (GV base kb g c3 k PL (cs.map List.length) oa on oc W6 (HR.below a7) (HP.below a7) HO HC.lens om k5 b6 (by have:AM cs=(cs.map List.length).sum:=rfl;omega));obtain ⟨g3,g0,k2⟩:=H3 g9 a7 b4;clear b4 a7 g9
     go_upto_region 33 with fail
     rw [<-AB k2]
     go_wp2_with fail
     refine j7.mono ?_;rintro e w7 ⟨rfl,f2⟩;have i9:=g3.lt;have i0:=g3.below f2 i9;have h4:=AC (g0.trans (f2.mono g0.size));have j1:Hid ((List.map List.length cs).sum=AM cs):=rfl;rw [AB j1];unfold BK;obtain ⟨W8,b1⟩:=xE (w7.alloc (Obj.cells #[iV PL.length,iV PL.sum,iV on,iV k.inos.length,iV (AM cs)] 68));have a2:AE W8 w7.heap.size 68 [iV PL.length,iV PL.sum,iV on,iV k.inos.length,iV (AM cs)]:=by rw [b1];exact AE.new w7 68 _
     have a1:AE W8 w5.heap.size 23 [iV PL.length,iV PL.sum,iV on,iV k.inos.length,iV (AM cs)]:=by rw [b1];exact i0.alloc _
     have k4:=AC (show Bw w W8 from by rw [b1];exact h4.alloc h4.size _);have s0:=a2.cell (j:=0) rfl;have s1:=a2.cell (j:=1) rfl;have s2:=a2.cell (j:=2) rfl;have s3:=a2.cell (j:=3) rfl;have s4:=a2.cell (j:=4) rfl;have t0:=a1.cell (j:=0) rfl;have t1:=a1.cell (j:=1) rfl;have t2:=a1.cell (j:=2) rfl;have t3:=a1.cell (j:=3) rfl;have t4:=a1.cell (j:=4) rfl;have j4:=AC b1;generalize PL.sum=PSUM at*;generalize AM cs=USUM at*;clear f2 i0 a2 a1 b1 v1
     go_upto_region 34 with fail
     rw [<-AB j4];go_wp2;go_ret;exact ⟨rfl,AB k4⟩
end Go.Proofs.YtpcjkidgohpeoaaGreatDoor
