import Derived.Test.YtpcjkidgohpeoaaGreatDoorG28
import Derived.Lib.LazyBuf
set_option maxRecDepth 100000
set_option maxHeartbeats 4000000
set_option linter.all false
namespace Go.Proofs.YtpcjkidgohpeoaaGreatDoor
open RowKit Maps Proofs.Tryz
variable {P:PK} {ks qs:List AP} {x y p:AP} {o o':DoO} {s:ByteArray} {ss:List ByteArray} {k:Dr} {pid b c:Int} {i fuel wb kb N SB XB:Nat} {w w':World} {md:Region.Mode} {ops:Array Oper} {Q:Exit->Act->World->Prop} {S J:World->Prop} {listed:Array Bool} {a:Act} {rs:List Nat} {kp:Addr} {I1:Nat->World->Int->Int->Value->Int->Prop} {I2:World->Value->Value->Prop} {OR CR:List Value} {d:Value}
def fQ (h:Xf P ks x o) (h':Xf P ks x o'):o=o':=by
 rcases h with ⟨a1,rfl⟩|⟨a1,a2,rfl⟩|⟨a1,a2,k,hk,rfl⟩<;>rcases h' with ⟨b1,rfl⟩|⟨b1,b2,rfl⟩|⟨b1,b2,j,hj,rfl⟩
 all_goals first
  |rfl
  |(rw [hk.unique hj];done)
  |(exfalso;omega)
def fR (hs:ks.Pairwise (λa b=>a.pid<b.pid)) (h:Xg P ks x s ss o) (h':Xg P ks x s ss o'):o=o':=by
 obtain ⟨i,hi,h⟩:=h;obtain ⟨j,hj,h'⟩:=h';obtain rfl:=Zi hs hi hj;rcases h with ⟨c,h1,rfl⟩|⟨h1,rfl⟩<;>rcases h' with ⟨d,h2,rfl⟩|⟨h2,rfl⟩
 ·rw [LD h1 h2]
 ·exact (JL h1 h2).elim
 ·exact (JL h2 h1).elim
 ·rfl
def fS (hs:ks.Pairwise (λa b=>a.pid<b.pid)) (h:Ot P ks x k o) (h':Ot P ks x k o'):o=o':=by
 rcases h with ⟨a,h⟩|⟨a,h⟩|⟨a,h⟩|⟨a,h⟩|⟨a,h⟩|⟨a,h⟩|⟨a,h⟩|⟨a,h⟩<;>rcases h' with ⟨b,h'⟩|⟨b,h'⟩|⟨b,h'⟩|⟨b,h'⟩|⟨b,h'⟩|⟨b,h'⟩|⟨b,h'⟩|⟨b,h'⟩
 all_goals first
  |(exfalso;omega)
  |exact fQ h h'
  |exact fR hs h h'
  |exact h.trans h'.symm
  |skip
 ·rcases h with ⟨a1,rfl⟩|⟨a1,rfl⟩<;>rcases h' with ⟨b1,rfl⟩|⟨b1,rfl⟩<;>first|rfl|exact absurd a1 b1|exact absurd b1 a1
 ·rcases h with ⟨a1,rfl⟩|⟨a1,a2,rfl⟩|⟨z,a1,rfl⟩<;>rcases h' with ⟨b1,rfl⟩|⟨b1,b2,rfl⟩|⟨z',b1,rfl⟩
  all_goals first
   |rfl
   |exact absurd a1 b1
   |exact absurd b1 a1
   |(rw [a2] at b1;cases b1;done)
   |(rw [b2] at a1;cases a1;done)
   |(unfold waitZ at b1;rw [a1] at b1;cases b1;done)
   |(unfold waitZ at a1;rw [b1] at a1;cases a1;done)
   |(rw [a1] at b1;cases b1;rfl)
 ·rcases h with ⟨a1,rfl⟩|⟨a1,a2,rfl⟩|⟨a1,a2,a3,rfl⟩<;>rcases h' with ⟨b1,rfl⟩|⟨b1,b2,rfl⟩|⟨b1,b2,b3,rfl⟩
  all_goals first
   |rfl
   |exact absurd b1 a1
   |exact absurd a1 b1
   |(exfalso;omega)
 ·rcases h with ⟨a1,rfl⟩|⟨a1,a2,rfl⟩|⟨a1,a2,rfl⟩<;>rcases h' with ⟨b1,rfl⟩|⟨b1,b2,rfl⟩|⟨b1,b2,rfl⟩
  all_goals first
   |rfl
   |exact absurd b1 a1
   |exact absurd a1 b1
   |(rw [a2] at b2;cases b2;done)
 ·rcases h with ⟨a1,rfl⟩|⟨a1,a2,rfl⟩|⟨a1,a2,rfl⟩<;>rcases h' with ⟨b1,rfl⟩|⟨b1,b2,rfl⟩|⟨b1,b2,rfl⟩
  all_goals first
   |rfl
   |(exfalso;omega)
   |(rw [a2] at b2;cases b2;done)
def mJ (hs:ks.Pairwise (λa b=>a.pid<b.pid)) (h:DoR P ks pid k o) (h':DoR P ks pid k o'):o=o':=by
 rcases h with ⟨a1,rfl⟩|⟨x,hx,ex,h⟩<;>rcases h' with ⟨b1,rfl⟩|⟨y,hy,ey,h'⟩
 ·rfl
 ·exact absurd ey (a1 y hy)
 ·exact absurd ex (b1 x hx)
 ·obtain rfl:=Zh hs hx hy (ex.trans ey.symm);rcases h with ⟨a1,rfl⟩|⟨a1,h⟩<;>rcases h' with ⟨b1,rfl⟩|⟨b1,h'⟩
  ·rfl
  ·exact absurd b1 a1
  ·exact absurd a1 b1
  ·exact fS hs h h'
def mL (hx:x∈ks) (hp:y.pid=x.pid) {z:AP} (hz:z∈IV ks y):z=y\/z∈ks/\z.pid≠y.pid:=by
 obtain ⟨u,hu,rfl⟩:=yt.1 hz;by_cases e:u.pid=y.pid
 ·rw [vu e];exact .inl rfl
 ·rw [vz e];exact .inr ⟨hu,e⟩
def Xt:(IV ks y).map (·.pid)=ks.map (·.pid):=by
 unfold IV;rw [rx];refine qv λz _=> ?_;show (if z.pid=y.pid then y else z).pid=z.pid;split
 ·rename_i h;exact h.symm
 ·rfl
def Oy (h:qs.map (·.pid)=ks.map (·.pid)) (hs:ks.Pairwise (λa b=>a.pid<b.pid)):qs.Pairwise (λa b=>a.pid<b.pid):=by
 rw [<-List.pairwise_map (f:=λa:AP=>a.pid) (R:=λa b:Int=>a<b)] at hs ⊢;rw [h];exact hs
def Xu (h:qs.map (·.pid)=ks.map (·.pid)) (hs:∃p∈ks,p.pid=1):∃p∈qs,p.pid=1:=by
 obtain ⟨p,hp,e⟩:=hs;have:(1:Int)∈qs.map (·.pid):=by rw [h,<-e];exact ui hp
 obtain ⟨q,hq,e'⟩:=yt.1 this;exact ⟨q,hq,e'⟩
def Zv (hs:ks.Pairwise (λa b=>a.pid<b.pid)) (hx:x∈ks) (hp:y.pid=x.pid):Cc (IV ks y)+x.PS.length=Cc ks+y.PS.length:=by
 induction ks with
 |nil=>cases hx
 |cons a r ih=>
  obtain ⟨ha,hr⟩:=se.1 hs;unfold Cc IV at ih ⊢;rw [ub,ub,rz,ub,rz];rcases vp.1 hx with rfl|hx
  ·have e:r.map (λz=>if z.pid=y.pid then y else z)=r:=by
    conv=>rhs;rw [<-List.map_id r]
    refine qv λz hz=> ?_;have:=ha z hz;rw [vz om];rfl
   rw [vu hp.symm,e];omega
  ·have:=ha x hx;rw [vz om];have:=ih hr hx;omega
def KOk.put (h:KOk P ks) (hx:x∈ks) (hp:y.pid=x.pid) (hy:AOk y) (hf:(Cc ks:Int)+(y.PS.length:Int)-(x.PS.length:Int)<=P.lf):KOk P (IV ks y):=by
 refine ⟨λz hz=> ?_,Oy Xt h.sorted,Xu Xt h.one,?_,?_⟩
 ·rcases mL hx hp hz with rfl|⟨q,_⟩
  ·exact hy
  ·exact h.each z q
 ·unfold IV;rw [zc];exact h.cnt
 ·have:=Zv h.sorted hx hp;omega
def Xv (hy:∀z∈ks,z.pid≠y.pid) (z:AP):z∈Lx ks y↔z=y\/z∈ks:=by
 unfold Lx;simp only [vo,vp,vk,rh];constructor
 ·rintro (h|h|h)
  ·exact .inr h.1
  ·exact .inl h
  ·exact .inr h.1
 ·rintro (h|h)
  ·exact .inr (.inl h)
  ·have:=hy z h;by_cases e:z.pid<y.pid
   ·exact .inl ⟨h,e⟩
   ·exact .inr (.inr ⟨h,om⟩)
def Xw (hy:∀z∈ks,z.pid≠y.pid) (f:AP->Nat):((Lx ks y).map f).sum=(ks.map f).sum+f y:=by
 have B:∀(l:List AP),(∀z∈l,z.pid≠y.pid)->((l.filter (λz=>decide (z.pid<y.pid))).map f).sum+((l.filter (λz=>decide (y.pid<z.pid))).map f).sum=(l.map f).sum:=by
  intro l
  induction l with
  |nil=>intro _;rfl
  |cons a r ih=>
   intro h;have h1:=ih (λz hz=>h z (by simp [hz]));have h2:=h a sI;by_cases e:a.pid<y.pid
   ·rw [tg (sU e),ua sO];simp only [ub,rz];omega
   ·rw [ua (sU e),tg sO];simp only [ub,rz];omega
 have:=B ks hy;unfold Lx;rw [xj,ub,List.sum_append,rz];omega
def Rc:∀(l:List AP),(l.map (λ_=>1)).sum=l.length
 |[]=>rfl
 |a::r=>by rw [ub,rz,Rc r,um];omega
def jp (hy:∀z∈ks,z.pid≠y.pid):(Lx ks y).length=ks.length+1:=by
 have:=Xw hy (λ_=>1);rw [Rc,Rc] at this;exact this
def Xx (hs:ks.Pairwise (λa b=>a.pid<b.pid)):(Lx ks y).Pairwise (λa b=>a.pid<b.pid):=by
 unfold Lx;rw [ud,se];refine ⟨hs.filter _,⟨λz hz=> ?_,hs.filter _⟩,λa ha b hb=> ?_⟩
 ·simpa using (vk.1 hz).2
 ·have h1:a.pid<y.pid:=sU ((vk.1 ha).2);rcases vp.1 hb with rfl|hb
  ·exact h1
  ·have h2:y.pid<b.pid:=sU ((vk.1 hb).2);omega
def JR.le {k:Nat} (h:JR ks k):k<=ks.length+1:=by
 have B:∀j∈(List.range (k-1)).map (λj=>((j+1:Nat):Int)),j∈ks.map (·.pid):=λv hv=>by
  obtain ⟨j,hj,rfl⟩:=yt.1 hv;rw [zf] at hj;obtain ⟨y,hy,e⟩:=h.used (j+1) om om;rw [<-e];exact ui hy
 have hn:((List.range (k-1)).map (λj=>((j+1:Nat):Int))).Nodup:=by
  refine List.Pairwise.map _ (λa b D e=>D ?_) List.nodup_range;omega
 have E:∀(a b:List Int),a.Nodup->(∀x∈a,x∈b)->a.length<=b.length:=by
  intro a
  induction a with
  |nil=>intro b _ _;simp
  |cons x a ih=>
   intro b hn hs;have hx:x∈b:=hs x sI;have C:=List.nodup_cons.1 hn;have:=ih (b.erase x) C.2 (λy hy=>(List.mem_erase_of_ne (λe=>C.1 (by rw [<-e];exact hy))).2 (hs y (by simp [hy])));rw [List.length_erase_of_mem hx] at this;have:=rl hx;simp only [um];omega
 have:=E _ _ hn B;rw [zc,tx,zc] at this;omega
def Zw:AK An:=Bx.2 (λx hx=>by
 have:=qt (show x∈List.replicate 256 (0:Int) from hx)
 omega)
def Zx (pid s:Int) (z:AP):(GI pid s z).pid=z.pid:=by
 unfold GI AP.ended;split
 ·rfl
 ·split<;>rfl
def Zy (pid s:Int) (z:AP):(GI pid s z).PS.length<=z.PS.length:=by
 unfold GI AP.ended;split
 ·simp
 ·split<;>exact zx _
def Rd {f g:AP->Nat}:∀(l:List AP),(∀z∈l,f z<=g z)->(l.map f).sum<=(l.map g).sum
 |[],_=>zx _
 |a::r,h=>by
  have h1:=Rd r (λz hz=>h z (by simp [hz]));have h2:=h a sI;simp only [ub,rz];omega
def LJ {f:AP->Nat} (q:AP->Bool):∀(l:List AP),((l.filter q).map f).sum<=(l.map f).sum
 |[]=>zx _
 |a::r=>by
  have h1:=LJ (f:=f) q r;by_cases e:q a=true
  ·rw [tg e];simp only [ub,rz];omega
  ·rw [ua e];simp only [ub,rz];omega
def Re {PS:List Pg} (h:Bc PS) (B:Int) (L:List Int):∀j,Bc (CF PS B L j)
 |0=>h
 |j+1=>Qz (Re h B L j) _ _
def AOk.pages_ (h:AOk p) (B:p.st=0) {Q:List Pg} (hQ:Bc Q) (hb:∀q∈Q,AK q.bytes) (hq:0<Q.length):AOk {p with PS:=Q}:=by
 refine ⟨h.regs,hQ,hb,h.pc,h.rbd,h.le,?_,h.pid,h.par,λ_=>hq⟩;rcases h.st with q|q
 ·exact .inl q
 ·exact absurd (q.1.symm.trans B) dz
def Rf {l c:List Int} {o:Nat} {x:Int} (h:x∈splice l o c):x∈l\/x∈c:=by
 unfold splice at h;rcases vo.1 h with h|h
 ·exact .inl (sm h)
 ·rcases vo.1 h with h|h
  ·exact .inr h
  ·exact .inl (rq h)
def bu:∀(ss:List ByteArray),∀x∈room ss,0<=x/\x<=255
 |[],x,hx=>by
  have:=qt (show x∈List.replicate 512 (0:Int) from hx)
  omega
 |s::r,x,hx=>by
  unfold room at hx;rcases Rf hx with h|h
  ·exact bu r x h
  ·obtain ⟨b,_,rfl⟩:=yt.1 h;have:=b.toNat_lt;omega
def U9 (ss:List ByteArray):∀x∈AS ss,0<=x/\x<=255:=λx hx=>by
 unfold AS at hx;rcases Rf hx with h|h
 ·exact bu ss x h
 ·obtain ⟨v,_,h⟩:=sy.1 h;obtain ⟨k,_,rfl⟩:=yt.1 h;omega
def jq (h:AOk p) (B:p.st=0) {PL:List Nat} (he:P.ExecOk PL i s ss) (hB:AK (P.fileOf s)):AOk (FK p (P.fileOf s) ss):=by
 have C:=Pi he.2.2.2.1 _ (CE he.2.2.2.2.1);have hn:=BP hB 24 8 (zx 8);refine ⟨by simp [FK],C,λq hq=> ?_,⟨hn.1,by show AO (P.fileOf s) 24 8<=_;omega⟩,λr=> ?_,h.le,?_,h.pid,h.par,λ_=>by simp [FK,CS]⟩
 ·rcases vo.1 hq with h1|h1
  ·exact My hB q h1
  ·exact TZ (U9 ss) q h1
 ·refine bt (λx hx=> ?_) dz r;rcases vo.1 hx with h1|h1
  ·have:=qt h1;omega
  ·simp at h1;have:Dc ss<=512:=by unfold Dc;omega
   omega
 ·rcases h.st with q|q
  ·exact .inl q
  ·exact absurd (q.1.symm.trans B) dz
def fT (h:KOk P ks) (U:P.lp<=1000) (hB:∀s,AK (P.fileOf s)) (hx:x∈ks) (D:x.st=0) (O:AK k.B) (hw:Ot P ks x k o):KOk P o.ks:=by
 have C:=h.each x hx
 have I:x.su=0/\x.F=pC:=by
  rcases C.st with q|q
  ·exact q.2
  ·exact absurd (q.1.symm.trans D) dz
 rcases hw with ⟨_,hw⟩|⟨_,hw⟩|⟨_,hw⟩|⟨_,hw⟩|⟨_,hw⟩|⟨_,hw⟩|⟨_,hw⟩|⟨_,rfl⟩
 ·rcases hw with ⟨a1,rfl⟩|⟨a1,a2,rfl⟩|⟨a1,a2,k,hk,rfl⟩
  ·exact h
  ·exact h
  ·have hf:∀z∈ks,z.pid≠(Fz x k).pid:=hk.free;have T:=hk.le;have L:=hk.pos;refine ⟨λz hz=> ?_,Xx h.sorted,?_,?_,?_⟩
   ·rcases (Xv hf z).1 hz with rfl|q
    ·refine ⟨C.regs,C.pages,C.bytes,C.pc,C.rbd,rfl,.inl ⟨rfl,rfl,I.2⟩,⟨?_,?_⟩,⟨?_,?_,?_,?_⟩,λ_=>C.live D⟩
     ·show (1:Int)<=(k:Int);omega
     ·show (k:Int)<=100000;omega
     ·show 0<=x.pid;have:=C.pid.1;omega
     ·exact C.pid.2
     ·exact hk.free x hx
     ·intro e;have e:(k:Int)=1:=e;obtain ⟨p,hp,e1⟩:=h.one;exact absurd (e1.trans e.symm) (hk.free p hp)
    ·exact h.each z q
   ·obtain ⟨p,hp,e⟩:=h.one;exact ⟨p,(Xv hf p).2 (.inr hp),e⟩
   ·rw [jp hf];omega
   ·have:=Xw hf (λz=>z.PS.length);have e:(Fz x k).PS.length=x.PS.length:=rfl;unfold Cc at a2 ⊢;rw [this];omega
 ·obtain ⟨i,hi,hw⟩:=hw;rcases hw with ⟨c,_,rfl⟩|⟨H,rfl⟩
  ·exact h
  ·refine h.put hx rfl (jq C D H (hB _)) ?_;have h6:=H.2.2.2.2.2;rw [zk,ze,hi] at h6
   have e:(FK x (P.fileOf k.s) k.ss).PS.length=(Ad (P.fileOf k.s)).length+2:=by
    show (Ad (P.fileOf k.s)++CS (AS k.ss)).length=_;rw [zm];rfl
   have h6:((Cc ks:Nat):Int)-(x.PS.length:Int)+((Ad (P.fileOf k.s)).length:Int)+2<=P.lf:=h6;rw [e];omega
 ·rcases hw with ⟨a1,rfl⟩|⟨a1,rfl⟩
  ·exact h
  ·have E:(Nm ks x.pid (k.a%256)).map (·.pid)=ks.map (·.pid):=by
    unfold Nm;rw [rx];exact qv λz _=>Zx _ _ z
   refine ⟨λz hz=> ?_,Oy E h.sorted,Xu E h.one,?_,?_⟩
   ·obtain ⟨u,hu,rfl⟩:=yt.1 hz;have ho:=h.each u hu;unfold GI;split
    ·rename_i e
     exact ⟨ho.regs,⟨List.Pairwise.nil,λp hp=>absurd hp (by simp [AP.ended])⟩,λq hq=>absurd hq (by simp [AP.ended]),ho.pc,ho.rbd,rfl,.inr ⟨rfl,rfl,rfl,by show u.pid≠1;rw [e];exact a1⟩,ho.pid,ho.par,λe=>absurd (show (2:Int)=0 from e) dz⟩
    ·split
     ·rename_i e1 e2
      refine ⟨ho.regs,ho.pages,ho.bytes,ho.pc,ho.rbd,ho.le,ho.st,ho.pid,⟨by show (0:Int)<=1;decide,by show (1:Int)<=100000;decide,?_,?_⟩,ho.live⟩
      ·intro e;have e:(1:Int)=u.pid:=e;have:=ho.par.2.2.2 e.symm;have:=C.pid.1;omega
      ·intro e;have e:u.pid=1:=e;have:=ho.par.2.2.2 e;have:=C.pid.1;omega
     ·exact ho
   ·unfold Nm;rw [zc];exact h.cnt
   ·have h1:=Rd (f:=λz=>(GI x.pid (k.a%256) z).PS.length) (g:=λz=>z.PS.length) ks (λz _=>Zy _ _ z);have h2:=h.frames;unfold Cc Nm at*;rw [rx];have h1:(ks.map ((λz:AP=>z.PS.length)∘GI x.pid (k.a%256))).sum<=_:=h1;omega
 ·rcases hw with ⟨a1,rfl⟩|⟨a1,a2,rfl⟩|⟨z,a1,rfl⟩
  ·exact h
  ·exact h
  ·have hz:=yk a1;have R:z.st=2:=sU (qz a1);have M:=(vk.1 hz).1;refine ⟨λy hy=>h.each y (vk.1 hy).1,h.sorted.filter _,?_,?_,?_⟩
   ·obtain ⟨p,hp,e⟩:=h.one;refine ⟨p,vk.2 ⟨hp,?_⟩,e⟩;have:=h.each z M;rcases this.st with q|q
    ·exact absurd (q.1.symm.trans R) dz
    ·simp only [bne_iff_ne,ne_eq];rw [e];exact λe'=>q.2.2.2 e'.symm
   ·have:=List.length_filter_le (λy:AP=>y.pid !=z.pid) ks;have:=h.cnt;show (((ks.filter (λy=>y.pid !=z.pid)).length:Nat):Int)<=P.lp;omega
   ·have h1:=LJ (f:=λy:AP=>y.PS.length) (λy=>y.pid !=z.pid) ks;have h2:=h.frames;unfold Cc at*;show ((((ks.filter (λy=>y.pid !=z.pid)).map (λy=>y.PS.length)).sum:Nat):Int)<=P.lf;omega
 ·rcases hw with ⟨a1,rfl⟩|⟨a1,a2,rfl⟩|⟨a1,a2,a3,rfl⟩
  ·exact h
  ·exact h
  ·have G:∀p∈x.PS,p.num<254->p.num<(Sg x:Int):=λp hp hl=>Kp C.pages 254 p hp hl;refine h.put hx rfl (C.pages_ D (Kq C.pages G om) (λq hq=> ?_) (o2 (RT C.pages (Sg x) k.a.toNat) (C.live D))) ?_
   ·unfold Cp at hq;rcases vo.1 hq with hq|hq
    ·exact C.bytes q (vk.1 hq).1
    ·rcases vo.1 hq with hq|hq
     ·obtain ⟨i,_,rfl⟩:=GH hq;exact Zw
     ·exact C.bytes q (vk.1 hq).1
   ·have:=RT C.pages (Sg x) k.a.toNat;show (Cc ks:Int)+((Cp x.PS (Sg x) k.a.toNat).length:Int)-(x.PS.length:Int)<=P.lf;omega
 ·rcases hw with ⟨a1,rfl⟩|⟨a1,a2,rfl⟩|⟨a1,a2,rfl⟩<;>exact h
 ·rcases hw with ⟨a1,rfl⟩|⟨a1,a2,rfl⟩|⟨a1,a2,rfl⟩
  ·exact h
  ·exact h
  ·refine h.put hx rfl (C.pages_ D (Re C.pages _ _ _) (λq hq=>Mn C.bytes _ O _ q hq) (by rw [Ke (Fr x.PS (IntKind.u64.wrap k.a) k.B k.B.length)];exact C.live D)) ?_;have:=Ke (Fr x.PS (IntKind.u64.wrap k.a) k.B k.B.length);have:=h.frames;show (Cc ks:Int)+((CF x.PS (IntKind.u64.wrap k.a) k.B k.B.length).length:Int)-(x.PS.length:Int)<=P.lf;omega
 ·exact h
def mO (h:KOk P ks) (E:P.lp<=1000) (hB:∀s,AK (P.fileOf s)) (D:AK k.B) (hw:DoR P ks pid k o):KOk P o.ks:=by
 rcases hw with ⟨_,rfl⟩|⟨x,hx,_,(⟨_,rfl⟩|⟨C,hw⟩)⟩
 ·exact h
 ·exact h
 ·exact fT h E hB hx C D hw
section
open Go.Sort Shelf
def pF (d:PD):Prop:=d.p.le=0/\(∀q∈d.p.PS,q.bytes.length=256)/\(d.p.F=[-1, -1, -1,0,0,0,0,0]/\d.m=3/\d.FR=GS 3\/d.p.F=[0,0,0,0,0,0,0,0]/\d.m=0/\d.FR=[])
def Xz:Eh [] [0,0,0,0,0,0,0,0]=[]:=kf
def Hm (Q:Nat) (l:Kx):PO:=⟨l.pa,(match l.pa with|some a=>a.block|none=>Q),l.ca,l.fa,(match l.fa with|some a=>a.block|none=>Q),0,l.fc⟩
def Oz:∀(DL:List PD) (LS:List Kx) (j i:Nat) (d:PD) (l:Kx) (v:Value),DL[j]? =some d->LS[j]? =some l->(GF d l)[i]? =some v->(El DL LS)[j*24+i]? =some v
 |[],_,j,i,d,l,v,h,_,_=>by simp at h
 |a::r,[],j,i,d,l,v,_,h,_=>by simp at h
 |a::r,b::s,0,i,d,l,v,h1,h2,h3=>by
  have e1:a=d:=sU h1;have e2:b=l:=sU h2;subst e1 e2;have hi:=(zy.1 h3).1;unfold El;rw [zo om,Nat.zero_mul,zq]
  exact h3
 |a::r,b::s,j+1,i,d,l,v,h1,h2,h3=>by
  have ih:=Oz r s j i d l v (sU h1) (sU h2) h3;unfold El;rw [zn (by rw [show (GF a b).length=24 from rfl];omega),show (GF a b).length=24 from rfl,show (j+1)*24+i-24=j*24+i by omega];exact ih
def fX {PL:List (Int×Nat)} {DL:List PD} {e:Ending} (h:RF w PL DL e w') (U:DL.length=PL.length) (hp:0<PL.length) (Z:∀d∈DL,pF d):Ni w [] (DL.map (·.p)) e w':=by
 obtain ⟨gs,v,LS,rfl,hL⟩:=h;obtain ⟨g,c,rfl,_⟩:=hL.form;have a1:=hL.row.lt g rfl;have G:(DL.map (·.p)).length=PL.length:=by rw [zc,U]
 have Y:=hL.len;refine ⟨some (xK g 0),g,c,LS.map (Hm w'.heap.size),by rw [G],λ_=>⟨rfl,a1.2⟩,hL.below,by rw [zc,zc,U,Y],λi p l _ E hl=> ?_,λi j p l m E hl hm V h0=> ?_⟩
 ·rw [ze] at E hl;obtain ⟨d,hd,rfl⟩:=up.1 E;obtain ⟨t,ht,rfl⟩:=up.1 hl;obtain ⟨B,D⟩:=hL.each i d t hd ht;obtain ⟨a0,O,hF⟩:=Z d (zv hd);have a2:=(zy.1 hd).1
  have hm:d.m=(Eh [] d.p.F).length:=by
   rcases hF with ⟨q1,q2,_⟩|⟨q1,q2,_⟩
   ·rw [q1,q2,bz];rfl
   ·rw [q1,q2,Xz];rfl
  have I:0<d.p.PS.length->∃ga,t.pa=some (xK ga 0):=λh0=>Rh B h0;have M:0<d.m->∃fg,t.fa=some (xK fg 0):=λh0=>Rh D h0;have H:∀ga,t.pa=some (xK ga 0)->(Hm w'.heap.size t).ga=ga:=λga e=>by unfold Hm;rw [e]
  have T:∀fg,t.fa=some (xK fg 0)->(Hm w'.heap.size t).fg=fg:=λfg e=>by unfold Hm;rw [e]
  have C:If w' (Hm w'.heap.size t).ga d.p.PS:=by
   by_cases h0:0<d.p.PS.length
   ·obtain ⟨ga,e⟩:=I h0;rw [H ga e];rw [e] at B;exact iD O B
   ·have:d.p.PS=[]:=uz om;rw [this];intro j q hq;simp at hq
  refine ⟨λj u hu=> ?_,λh0=> ?_,C,λj hj=> ?_,λh0=> ?_,?_⟩
  ·have R:(GF d t)[j]? =some u:=by
    rw [<-hu];unfold GF TJ Hm;rw [a0,hm]
   have hj:=(zy.1 R).1;have hj:j<24:=hj;have h1:=Oz (DL.take PL.length) LS i j d t u (by rw [xq,vu om];exact hd) ht R;have h2:=hL.row.cellAt (i*24+j) om;rw [h2];exact h1
  ·obtain ⟨ga,e⟩:=I h0;rw [H ga e];have L:=B.lt ga (by rw [e];rfl);refine ⟨e,L.1,L.2,λq=>hL.off i t _ ht (.inl e) ?_⟩;show some g=some ga;rw [q]
  ·obtain ⟨ga,e⟩:=I om;rw [H ga e] at C ⊢;rw [e] at B;obtain ⟨v1,c1,f1⟩:=Fh B (j*258) om;obtain ⟨v2,c2,f2⟩:=Fh B (j*258+2) om;obtain ⟨q,hq⟩:∃q,d.p.PS[j]? =some q:=⟨_,zz hj⟩;refine ⟨by rw [c1];rfl,f1,?_,f2⟩;have X:=O q (zv hq);have:=(C j q hq).2.2 0 (.int .u8 (q.bytes.getD 0 0)) (AN _ _ om);exact ⟨_,this⟩
  ·obtain ⟨fg,e⟩:=M om;rw [T fg e];exact ⟨e,(D.lt fg (by rw [e];rfl)).2⟩
  ·rcases hF with ⟨q1,q2,q3⟩|⟨q1,q2,q3⟩
   ·obtain ⟨fg,e⟩:=M om;rw [T fg e,q1,bz];rw [e,q2,q3] at D;intro i x hx;have hi:=(zy.1 hx).1;have a3:i<3:=sU hi;have c0:=D.cellAt (i*3) om;have c1:=D.cellAt (i*3+1) om;have c2:=D.cellAt (i*3+2) om;show w'.cell? (xK fg (0+i*3))=_/\w'.cell? (xK fg (0+i*3+1))=_/\w'.cell? (xK fg (0+i*3+2))=_;rw [zq,c0,c1,c2];have h9:i=0\/i=1\/i=2:=om;rcases h9 with rfl|rfl|rfl
    ·have:(⟨0,4,0⟩:AFd)=x:=sU hx;subst this;exact ⟨rfl,rfl,rfl⟩
    ·have:(⟨1,4,0⟩:AFd)=x:=sU hx;subst this;exact ⟨rfl,rfl,rfl⟩
    ·have:(⟨2,4,0⟩:AFd)=x:=sU hx;subst this;exact ⟨rfl,rfl,rfl⟩
   ·rw [q1,Xz];intro i x hx;simp at hx
 ·rw [ze] at E hl hm;obtain ⟨d,hd,rfl⟩:=up.1 E;obtain ⟨t,ht,rfl⟩:=up.1 hl;obtain ⟨u,hu,rfl⟩:=up.1 hm;obtain ⟨B,_⟩:=hL.each i d t hd ht;obtain ⟨ga,e⟩:=Rh B h0;have L:=B.lt ga (by rw [e];rfl);have e1:(Hm w'.heap.size t).ga=ga:=by unfold Hm;rw [e]
  rw [e1];constructor
  ·unfold Hm
   cases hb:u.pa with
   |none=>show ga≠w'.heap.size;omega
   |some b=>exact hL.apart i j t u (xK ga 0) b ht hu e (.inl ⟨V,hb⟩)
  ·unfold Hm
   cases hb:u.fa with
   |none=>show ga≠w'.heap.size;omega
   |some b=>exact hL.apart i j t u (xK ga 0) b ht hu e (.inr hb)
end
def Rm {P:Program} {o:Oper} (hi:ops[i]? =some o) (C:o.guard=none) (ty:TypeId) (x:Operand) (ho:o.op= .load ty x) (ad:Addr) (hx:a.eval x= .pointer (some ad)) (v:Value) (B:(Instr.loadAt ty (.pointer (some ad))).run P w= .ok v w) (d:Option Tmp) (hd:o.dst=d) (hS:S w) (h:wpAnyH P md ops Q S fuel (listed.setIfInBounds i true) (a.put d v) w) (hs:AllReadyH P md ops Q S fuel listed a w rs):
  AllReadyH P md ops Q S fuel listed a w (i::rs):=
 vq hi (λK hK=>NV C ty x ho ad hx v B d hd (hK.out _ _ hS (λ_=>h))) hs
def pY (_:World):Prop:=True
def cD (B cb:Nat) (vt vw:Value) (typed out:List Int) (w:World) (e:Ending) (w':World):Prop:=∃r,e= .returned r/\M4 w w' r out/\Rl B cb vt vw typed [] w w'
def X7 (B cb:Nat) (vt vw:Value) (C D:List Int) (w:World) (h:IF w B cb vt vw C D) (hl:D.length<=1000000) (hB:B<=w.heap.size):
  cT 111 #[qP cb 0] w (cD B cb vt vw C D w):=by
 obtain ⟨n,hn⟩:=xE D.length;obtain ⟨a,c,rfl⟩:∃a c,vw= .slice a n c:=by obtain ⟨a,c,e⟩:=h.out.len;exact ⟨a,c,by rw [hn];exact e⟩
 have hd:IF w.drew B cb vt (.slice a n c) C D:=h.block rfl λ_ _=>rfl;have c1:w.drew.cell? (xK cb 1)=some (.slice a n c):=hd.row.cell rfl
 have R1:=AC (show (Instr.loadAt 36 (qP cb 1)).run prog w.drew= .ok (.slice a n c) w.drew from by
  clear h hd
  go_simp)
 have HT:=AC (fu cb 1 B (.slice a n c) D (n:Int) w.drew 101 [vt,.slice a n c] hd.row dz rfl hd.out ⟨om,om⟩ hl hB);have HN:=AC hn;have HD:=AC hd;clear h hl hB hn hd c1;go_enter func111,ntmps111
 go_upto_region 1 with fail
 refine Ak ?_;intro A hA;have e0:A.eval (.tmp 0)= qP cb 0:=eH hA;have F:A.tmps.size=13:=eZ hA;have HA:=AC hA;clear hA;refine xf (S:=pY) kf trivial (λhS=> ?_);refine tq 0 3 rfl (yM (qP cb 0)) hS (tq 1 4 rfl (yN (xK cb 0)) hS (tq 2 5 rfl (yF (qP cb 0) (qP cb 1)) hS (tq 3 6 rfl (yM (qP cb 0)) hS (tq 4 7 rfl (yN (xK cb 0)) hS (tq 5 8 rfl (yF (qP cb 0) (qP cb 1)) hS ?_)))));refine tq 6 9 rfl (yF (qP cb 1) (qP cb 1)) hS ?_;refine rdy [7] kf (Rm rfl rfl 36 (.tmp 9) rfl (xK cb 1) sE (.slice a n c) R1 (some 10) rfl trivial ?_ vr);refine tq 8 11 rfl (Do rfl _ _ rfl (.slice a n c) sE (iV (n:Nat)) (λw' _=>gS)) hS ?_
 refine rdy [9] kf (vq rfl (λK hK=> ?_) vr);refine Ob rfl 159 5 11 _ _ rfl (qP cb 1) (iV (n:Nat)) sE sE fO _ (λe w' h=>by obtain ⟨_,_,_,_,h,_⟩:=h;exact ⟨_,h⟩) HT (some 12) rfl ?_;intro r2 w2 ht;rw [show min ((n:Nat):Int).toNat D.length=D.length by have:=AB HN;omega] at ht;obtain ⟨v',r,hr,h2,h3,h4,h5⟩:=HD.told ht;have hr:r2=r:=by injection hr
 subst hr;have HP:=AC (show cD B cb vt (.slice a n c) C D w (.returned r2) w2 from ⟨r2,rfl,h2,vt,v',h3,⟨h4.os,h4.tape,h4.output,h4.size,h4.block⟩,h5⟩);refine hK.out _ _ trivial (λE=> ?_);clear hK K;refine tq 10 2 rfl (yA r2) E ?_;refine vg kf ?_ _;rw [AB HA];simp only [Act.put,zl,zh,zi];clear h2 h3 h4 h5 ht hS E HA e0 F R1 HT;go_wp2;go_ret;exact AB HP
structure cG (wb kb:Nat) (kp:Addr) (N:Nat) (o:POp) (w:World) (I1:Nat->World->Int->Int->Value->Int->Prop) (I2:World->Value->Value->Prop) (J:World->Prop):Prop where
 row0:∃ov wv,AE w wb 47 [.pointer (some kp),qP kb 0,ov,wv,.bool false]
 prog:∀(W:World) (db:Nat) (la:Option Addr) (lc:Nat),Below w.heap.size w W->w.heap.size<=db->AE W db 5 (AF (o.B++[71,72]))->W.ownsRow w.heap.size 9 1 (.slice la o.ss.length lc) o.ss.length (o.ss.map Value.string)->
  cT 46 #[.pointer (some kp),iV o.a,.agg #[iV o.ck,iV o.ca,iV o.cb,.string o.s,.slice la o.ss.length lc,sL db 0 o.B.length (o.B.length+2)]] W λe W'=>∃a b d v c,e= .returned (.tuple #[.agg #[iV a,iV b,d],v])/\(∃dn dl dk,d= .slice dn dl dk)/\(∀W2,Cd W' W2 w.heap.size W.heap.size->cT 8 #[v] W2 λe W3=>e= .returned (iV c)/\Below W2.heap.size W2 W3)/\I1 W.heap.size W' a b d c/\(W'.os=W.os/\W'.tape=W.tape/\W'.output=W.output/\W.heap.size<=W'.heap.size)/\∀x,x<N\/w.heap.size<=x->x<W.heap.size->W'.heap[x]? =W.heap[x]?
 keep1:∀t W' W'' a b d c,I1 t W' a b d c->Cd W' W'' w.heap.size t->I1 t W'' a b d c
 row1:∀t W' a b d c,I1 t W' a b d c->∃ov wv,AE W' wb 47 [.pointer (some kp),qP kb 0,ov,wv,.bool false]
 ref:∀t W' a b d c,I1 t W' a b d c->∀da dc,W'.ownsRow w.heap.size 5 1 (.slice da o.B.length dc) o.B.length (AF o.B)->Nv W' N o->
  cT 49 #[qP kb 0,iV o.a,.agg (Rs o (.slice da o.B.length dc)).toArray] W' λe W2=>∃r O qa qo ra ro dn rn dk rk,e= .returned (.tuple #[iV a,iV b,r,iV c])/\c≠ -2/\(c≠0->d= sN)/\O.length<=1000000/\d= .slice dn O.length dk/\r= .slice rn O.length rk/\(0<O.length->dn=some (xK qa qo))/\(0<O.length->rn=some (xK ra ro))/\Am W2 qa qo O/\Am W2 ra ro O/\W'.heap.size<=W2.heap.size/\(∀x,w.heap.size<=x->x<W'.heap.size->W2.heap[x]? =W'.heap[x]?)/\I2 W2 d r
 keep2:∀W2 W3 d r,I2 W2 d r->Below W2.heap.size W2 W3->I2 W3 d r
 row2:∀W2 d r,I2 W2 d r->∃ov wv,AE W2 wb 47 [.pointer (some kp),qP kb 0,ov,wv,.bool false]
 fin:∀W2 d r,I2 W2 d r->J ((W2.setCell (xK wb 2) d).setCell (xK wb 3) r)
def aX {P:Program} {o:Oper} {K:Act->World->Prop} {E:Prop} (C:o.guard=none) (ty:TypeId) (ho:o.op= .alloc ty) (vs:Array Value) (B:∀D w,(Instr.alloc ty true D).run P w= .ok (qP w.heap.size 0) (w.alloc (.cells vs ty))) (d:Option Tmp) (hd:o.dst=d) (h:K (a.put d (qP w.heap.size 0)) (w.alloc (.cells vs ty))):
  if Region.wanted o (yielded ops a.tmps)=true then Oper.wp P o a w K Q else E:=by
 have hw:Region.wanted o (yielded ops a.tmps)=true:=by simp [Region.wanted,C]
 rw [vu hw];subst hd;unfold Oper.wp execOp;simp only [ho];simp [B,Result.andThen];exact h
def O6 {P:Program} {o:Oper} (hi:ops[i]? =some o) (C:o.guard=none) (ty:TypeId) (ho:o.op= .alloc ty) (vs:Array Value) (B:∀D w,(Instr.alloc ty true D).run P w= .ok (qP w.heap.size 0) (w.alloc (.cells vs ty))) (d:Option Tmp) (hd:o.dst=d)
  (h:S (w.alloc (.cells vs ty))/\(S (w.alloc (.cells vs ty))->wpAnyH P md ops Q S fuel (listed.setIfInBounds i true) (a.put d (qP w.heap.size 0)) (w.alloc (.cells vs ty)))) (hs:AllReadyH P md ops Q S fuel listed a w rs):
  AllReadyH P md ops Q S fuel listed a w (i::rs):=
 vq hi (λK hK=>aX C ty ho vs B d hd (hK.out _ _ h.1 h.2)) hs
def Tk (h:w.grownBy w' none) (b:Option Nat):w.grownBy w' b:=⟨h.os,h.tape,h.output,h.size,λk hk _=>h.block k hk sI⟩
def ma (w:World):(binOp .eql 36 sN sN).run Tryz.prog w= .ok (.bool true) w:=by
 simp [binOp,go_sem,run_equal_slice_nil (P:=Tryz.prog) w 36 _ none 0 0 underlying36]
def Tl (B:Value) (w:World):(Instr.alloc 140 true B).run Tryz.prog w= .ok (qP w.heap.size 0) (w.alloc (.cells #[iV 0,iV 0,sN] 140)):=gS
def YI:eN 46:=enters_of func46 kf rfl
def kc:eN 49:=enters_of func49 kf rfl
def KT (o:POp) (la:Option Addr) (n lc:Nat) (ba:Option Addr) (nb bc:Nat) (ea:Option Addr) (ne ec:Nat):List Value:=[iV o.kind,iV o.a,iV o.b,iV o.ck,iV o.ca,iV o.cb,.string o.s,.slice la n lc,.slice ba nb bc,.slice ea ne ec]
def Dp (o:POp) (la:Option Addr) (n lc DB nb:Nat):List Value:=[iV o.ck,iV o.ca,iV o.cb,.string o.s,.slice la n lc,sL DB 0 nb (nb+2)]
structure cH (I1:Nat->World->Int->Int->Value->Int->Prop) (N SB DB XB t:Nat) (o:POp) (OR CR:List Value) (lv:Value) (n:Nat) (a b:Int) (d v:Value) (c:Int) (w wx:World):Prop where
 inv:I1 t wx a b d c
 tell:∀W2,Cd wx W2 SB t->cT 8 #[v] W2 λe W3=>e= .returned (iV c)/\Below W2.heap.size W2 W3
 low:Below N w wx
 op:AE wx SB 53 OR
 cal:AE wx (SB+1) 51 CR
 dat:AE wx DB 5 (AF (o.B++[71,72]))
 lst:wx.ownsRow SB 9 1 lv n (o.ss.map Value.string)
 res:AE wx XB 140 [iV a,iV b,d]
 ne:SB+1<DB/\DB<t/\DB<XB/\∀x,lv.ownBlock=some x->DB<x/\x<t/\x<XB
 tl:t<=wx.heap.size
def YJ {o:POp} (h:cG wb kb kp N o w I1 I2 J) (hN:N<=w.heap.size) {Wc w7 w8:World} {DB L0 n:Nat} {lv:Value} {a:Int} {v:Value} (L:SB=w.heap.size) (hb:Below SB w Wc) (h0:AE Wc SB 53 OR) (h1:AE Wc (SB+1) 51 CR) (hd:AE Wc DB 5 (AF (o.B++[71,72]))) (hl:Wc.ownsRow L0 9 1 lv n (o.ss.map Value.string)) (G:SB+1<DB) (R:DB<L0)
  (hT:∀W2,Cd w7 W2 w.heap.size Wc.heap.size->cT 8 #[v] W2 λe W3=>e= .returned (iV c)/\Below W2.heap.size W2 W3) (hI:I1 Wc.heap.size w7 a b d c) (D:w7.os=Wc.os/\w7.tape=Wc.tape/\w7.output=Wc.output/\Wc.heap.size<=w7.heap.size) (M:∀x,x<N\/w.heap.size<=x->x<Wc.heap.size->w7.heap[x]? =Wc.heap[x]?)
  (hX:AE w8 XB 140 [iV a,iV b,d]) (hg:Cd w7 w8 XB (XB+1)) (O:w7.heap.size<=XB\/XB<Wc.heap.size) (E:DB<XB/\∀x,lv.ownBlock=some x->x<XB):cH I1 N SB DB XB Wc.heap.size o OR CR lv n a b d v c w w8:=by
 subst L;have hk:Cd w7 w8 w.heap.size Wc.heap.size:=⟨hg.os,hg.tape,hg.output,hg.size,λx hx hn=>hg.block x hx om⟩;have C:∀x,x<N\/w.heap.size<=x->x<Wc.heap.size->x<XB->w8.heap[x]? =Wc.heap[x]? :=λx hx hl hn=>by rw [hg.block x om om,M x hx hl]
 have F:=hd.lt;refine ⟨h.keep1 _ _ _ _ _ _ _ hI hk,λW2 hW=>hT W2 ⟨hW.os.trans hk.os,hW.tape.trans hk.tape,hW.output.trans hk.output,zg hk.size hW.size,λx hx hn=>(hW.block x (yz hx hk.size) hn).trans (hk.block x hx hn)⟩,⟨hg.os.trans (D.1.trans hb.os),hg.tape.trans (D.2.1.trans hb.tape),hg.output.trans (D.2.2.1.trans hb.output),o1 hg.size,λx hx=> ?_⟩,AJ h0 (C _ (.inr (zx _)) h0.lt om),AJ h1 (C _ (.inr om) h1.lt om),AJ hd (C _ (.inr om) F E.1),?_,hX,⟨G,F,E.1,λx e=>⟨o1 (hl.lt x e).1,(hl.lt x e).2,E.2 x e⟩⟩,zg D.2.2.2 hg.size⟩
 ·rw [C x (.inl hx) om om,hb.block x om]
 ·have h2:=Ck hl (λx e=>C x (.inr (o1 (hl.lt x e).1)) (hl.lt x e).2 (E.2 x e));refine ⟨h2.1,h2.2.imp id ?_⟩;rintro ⟨g,H,I,q1,q2,q3⟩;exact ⟨g,H,I,q1,om,q3⟩
structure KU (I1:Nat->World->Int->Int->Value->Int->Prop) (N SB XB t:Nat) (OR CR:List Value) (a b:Int) (d:Value) (c:Int) (w wx:World):Prop where
 inv:I1 t wx a b d c
 low:Below N w wx
 op:AE wx SB 53 OR
 cal:AE wx (SB+1) 51 CR
 res:AE wx XB 140 [iV a,iV b,d]
 tl:t<=wx.heap.size
 sz:N<=SB/\SB+1<XB
def KU.off {t y:Nat} {o:POp} {a:Int} {wx wy:World} (hh:cG wb kb kp N o w I1 I2 J) (B:SB=w.heap.size) (h:KU I1 N SB XB t OR CR a b d c w wx) (hg:Cd wx wy y (y+1)) (hy:SB+1<y/\(y<t/\y<XB\/wx.heap.size<=y)):KU I1 N SB XB t OR CR a b d c w wy:=by
 have ho:=h.op.lt;have hc:=h.cal.lt;have hr:=h.res.lt;have C:=h.sz;refine ⟨hh.keep1 _ _ _ _ _ _ _ h.inv ⟨hg.os,hg.tape,hg.output,hg.size,λx hx hn=>hg.block x hx om⟩,⟨hg.os.trans h.low.os,hg.tape.trans h.low.tape,hg.output.trans h.low.output,zg h.low.size hg.size,λx hx=>(hg.block x om om).trans (h.low.block x hx)⟩,AJ h.op (hg.block _ ho om),AJ h.cal (hg.block _ hc om),AJ h.res (hg.block _ hr om),zg h.tl hg.size,h.sz⟩
def Cd.top (h:Below w.heap.size w w'):Cd w w' w.heap.size (w.heap.size+1):=Cd.ofBelow h
def Cd.ofGrown {y:Nat} (h:w.grownBy w' (some y)):Cd w w' y (y+1):=⟨h.os,h.tape,h.output,h.size,λx hx hn=>h.block x hx (λe=>hn (o1 (zr e)))⟩
def me (wb kb:Nat) (kp:Addr) (N:Nat) (o:POp) (w:World) (I1:Nat->World->Int->Int->Value->Int->Prop) (I2:World->Value->Value->Prop) (J:World->Prop) (h:cG wb kb kp N o w I1 I2 J) (l2:Nv w N o) (hN:N<=w.heap.size) (r2:o.B.length<=200000) (v6:o.ss.length<=1000) (q5:o.ck≠20):
  cT 22 #[qP wb 0,.agg o.cells.toArray] w λe w'=>e= .returned (.bool true)/\J w':=by
 obtain ⟨HH,h7,l4⟩:=H3 h l2 hN;obtain ⟨la,lq,lo,lc,p4,y9,z0⟩:=l2.strs;obtain ⟨ba,bq,bo,bc,p1,b5,b0⟩:=l2.bs;obtain ⟨ea,eq,eo,ec,q4,_,_⟩:=l2.es;unfold POp.cells;rw [p4,p1,q4];obtain ⟨n,hn⟩:=xE o.ss.length;obtain ⟨nb,l5⟩:=xE o.B.length;obtain ⟨ne,h3⟩:=xE o.E.length;rw [<-hn,<-l5,<-h3];obtain ⟨SB,j5⟩:=xE w.heap.size;obtain ⟨W1,g7⟩:=xE ((w.alloc (Obj.cells #[iV o.kind,iV o.a,iV o.b,iV o.ck,iV o.ca,iV o.cb,.string o.s,.slice la n lc,.slice ba nb bc,.slice ea ne ec] 53)).alloc (Obj.cells #[iV o.ck,iV o.ca,iV o.cb,.string o.s,.slice la n lc,.slice ba nb bc] 51));have n4:Below w.heap.size w W1:=by rw [g7];exact bA.alloc sI _
 have r8:W1.heap.size=SB+1+1:=by rw [g7,j5];simp
 have r0:AE W1 SB 53 [iV o.kind,iV o.a,iV o.b,iV o.ck,iV o.ca,iV o.cb,.string o.s,.slice la n lc,.slice ba nb bc,.slice ea ne ec]:=by
  have h1:=AE.new w 53 [iV o.kind,iV o.a,iV o.b,iV o.ck,iV o.ca,iV o.cb,.string o.s,.slice la n lc,.slice ba nb bc,.slice ea ne ec];rw [g7,j5];exact h1.alloc _
 have r1:AE W1 (SB+1) 51 [iV o.ck,iV o.ca,iV o.cb,.string o.s,.slice la n lc,.slice ba nb bc]:=by
  have h1:=AE.new (w.alloc (Obj.cells #[iV o.kind,iV o.a,iV o.b,iV o.ck,iV o.ca,iV o.cb,.string o.s,.slice la n lc,.slice ba nb bc,.slice ea ne ec] 53)) 51 [iV o.ck,iV o.ca,iV o.cb,.string o.s,.slice la n lc,.slice ba nb bc];rw [World.size_alloc] at h1;rw [g7,j5];exact h1
 have c5:cE W1 (SB+1) 5 (.slice ba nb bc):=r1.cell rfl
 have s3:=AC (show cT 16 #[.slice ba nb bc] W1 λe w'=>e= .returned (sL W1.heap.size 0 nb (nb+2))/\AE w' W1.heap.size 5 (AF (o.B++[71,72]))/\Below W1.heap.size W1 w' from by
  rw [l5]
  exact NC ba bq bo bc o.B W1 (λh0=>(b5 h0).1) (λi hi=>by rw [n4.cell (p:=(xK bq (bo+i))) (yz (b5 om).2 hN)];exact b0 i hi) (λh0=>yz (yz (b5 h0).2 hN) n4.size) om)
 have Z:=AC (xi g7 j5);have o5:=AC n4;have a9:=AC (xi r0 r1);have t7:=AC r8;have g3:=AC (xi p4 (xi p1 q4));have a5:=AC (xi hn (xi l5 h3));have u4:=AC (xi r2 v6);have B6:n<=1000:=om;clear g7 j5 n4 r8 r0 r1 p4 p1 q4 hn l5 h3 y9 z0 b5 b0 h l2 hN r2 v6;go_enter func22,ntmps22
 go_upto_region 2 with fail
 rw [<-Z.1,<-Z.2]
 go_wp2_with fail
 refine s3.mono ?_;rintro e w2 ⟨rfl,n7,m8⟩;obtain ⟨DB,p0⟩:=xE W1.heap.size;rw [<-p0] at n7 ⊢;have q8:=a9.1.below m8 a9.1.lt;have n0:=a9.2.below m8 a9.2.lt;obtain ⟨W3,g8⟩:=xE (w2.setCell (xK (SB+1) 5) (sL DB 0 nb (nb+2)));have s2:DB=SB+1+1:=by rw [p0];exact AB t7
 have u1:Below SB w w2:=by rw [Z.2];exact o5.trans (m8.mono o5.size)
 have m2:Below SB w W3:=by rw [g8];exact u1.setCell (by show SB<=SB+1;omega) _
 have o9:AE W3 SB 53 [iV o.kind,iV o.a,iV o.b,iV o.ck,iV o.ca,iV o.cb,.string o.s,.slice la n lc,.slice ba nb bc,.slice ea ne ec]:=by rw [g8];exact q8.set_other om 5 _
 have k9:AE W3 (SB+1) 51 [iV o.ck,iV o.ca,iV o.cb,.string o.s,.slice la n lc,sL DB 0 nb (nb+2)]:=by rw [g8];exact n0.set 5 _
 have m0:AE W3 DB 5 (AF (o.B++[71,72])):=by rw [g8];exact n7.set_other om 5 _
 have f5:cE w2 (SB+1) 5 (.slice ba nb bc):=n0.cell rfl;have g5:=n0.frozen 5;have x4:cE W3 (SB+1) 4 (.slice la n lc):=k9.cell rfl;have x7:=k9.lt;obtain ⟨A0,W4,s0,h4,j7,p8⟩:=gF W3 W3.heap.size (x:= .slice la n lc) (ss:=o.ss) (N:=N) (by rw [a5.1,<-g3.1];exact h7.strs.below (m2.mono (by rw [Z.2];exact AB l4))) (o1 a5.1) (zx _);rw [<-a5.1] at h4
 obtain ⟨C,D,rfl⟩:∃C D,A0= .slice C n D:=by
  rcases h4.2 with ⟨q1,q2⟩|⟨g,z1,x1,q1,_⟩
  ·exact ⟨none,0,by rw [q1,q2]⟩
  ·exact ⟨_,_,q1⟩
 have u5:=o9.below j7 o9.lt;have m9:=k9.below j7 k9.lt;have r9:=m0.below j7 m0.lt;obtain ⟨W5,f1⟩:=xE (W4.setCell (xK (SB+1) 4) (.slice C n D));have y4:cE W4 (SB+1) 4 (.slice la n lc):=m9.cell rfl;have z4:=m9.frozen 4;have s7:Below SB w W4:=m2.trans (j7.mono (by rw [Z.2];exact m2.size));have u3:Below SB w W5:=by rw [f1];exact s7.setCell (by show SB<=SB+1;omega) _
 have d0:AE W5 SB 53 [iV o.kind,iV o.a,iV o.b,iV o.ck,iV o.ca,iV o.cb,.string o.s,.slice la n lc,.slice ba nb bc,.slice ea ne ec]:=by rw [f1];exact u5.set_other om 4 _
 have d2:AE W5 (SB+1) 51 [iV o.ck,iV o.ca,iV o.cb,.string o.s,.slice C n D,sL DB 0 nb (nb+2)]:=by rw [f1];exact m9.set 4 _
 have d4:AE W5 DB 5 (AF (o.B++[71,72])):=by rw [f1];exact r9.set_other om 4 _
 have d3:W5.ownsRow W3.heap.size 9 1 (.slice C n D) n (o.ss.map Value.string):=by
  rw [f1];exact Ck h4 (λb e=>(AI (zj W4 (some (SB+1))) 4 _).block b (h4.lt b e).2 (by have:=(h4.lt b e).1;simp;omega))
 have q6:DB<W3.heap.size:=m0.lt;have s9:=AC g8;have s1:=AC f1;have g2:=AC (xi d0 (xi d2 (xi d4 d3)));have p3:=AC u3;have g4:=AC (xi s2 q6);clear p0 n7 m8 q8 n0 g8 s2 u1 m2 o9 k9 m0 x7 h4 j7 p8 u5 m9 r9 f1 s7 u3 d0 d2 d4 d3 q6 s3 c5
 go_upto_region 4 with fail
 rw [<-AB s9];clear s9 f5 g5
 go_upto_region 6 with (at_builtin;refine Ar rfl _ _ _ (by rfl) _ _ _ _ (by rfl) (by rfl) s0 ?_)
 clear s0 x4
 go_upto_region 7 with fail
 rw [<-AB s1];clear s1 y4 z4;obtain ⟨ov,wv,G⟩:=HH.row0;have j3:Below w.heap.size w W5:=by rw [<-Z.2];exact AB p3
 have M:=G.below j3 G.lt;obtain ⟨d0,d2,d4,d3⟩:=AB g2;have i4:=AC (show W5.drew.cell? (xK wb 0)=some (.pointer (some kp))/\W5.drew.cell? (xK SB 1)=some (iV o.a)/\AE W5.drew (SB+1) 51 (Dp o C n D DB nb) from ⟨M.cell rfl,d0.cell rfl,d2⟩)
 have R0:=AC (show ∀w':World,(w'.cell? (xK wb 0)=some (.pointer (some kp))/\w'.cell? (xK SB 1)=some (iV o.a)/\AE w' (SB+1) 51 (Dp o C n D DB nb))->(Instr.loadAt 31 (qP wb 0)).run Tryz.prog w'= .ok (.pointer (some kp)) w' from λw' h=>by
  have c:=h.1;clear j3 G M d0 d2 d4 d3
  go_simp)
 have R1:=AC (show ∀w':World,(w'.cell? (xK wb 0)=some (.pointer (some kp))/\w'.cell? (xK SB 1)=some (iV o.a)/\AE w' (SB+1) 51 (Dp o C n D DB nb))->(Instr.loadAt 3 (qP SB 1)).run Tryz.prog w'= .ok (iV o.a) w' from λw' h=>by
  have c:=h.2.1;clear j3 G M d0 d2 d4 d3
  go_simp)
 have R2:=AC (show ∀w':World,(w'.cell? (xK wb 0)=some (.pointer (some kp))/\w'.cell? (xK SB 1)=some (iV o.a)/\AE w' (SB+1) 51 (Dp o C n D DB nb))->(Instr.loadAt 51 (qP (SB+1) 0)).run Tryz.prog w'= .ok (.agg (Dp o C n D DB nb).toArray) w' from λw' h=>by
  have c0:cE w' (SB+1) 0 (iV o.ck):=h.2.2.cell rfl;have c1:cE w' (SB+1) 1 (iV o.ca):=h.2.2.cell rfl;have c2:cE w' (SB+1) 2 (iV o.cb):=h.2.2.cell rfl;have c3:cE w' (SB+1) 3 (.string o.s):=h.2.2.cell rfl;have c4:cE w' (SB+1) 4 (.slice C n D):=h.2.2.cell rfl;have c5:cE w' (SB+1) 5 (sL DB 0 nb (nb+2)):=h.2.2.cell rfl;unfold Dp;clear j3 G M d0 d2 d4 d3 h
  go_simp)
 clear G M j3 d0 d2 d4 d3
 go_cut [8,9] (λxv ev wx=>∃(XB t:Nat) (a b c:Int) (d:Value),xv= qP XB 0/\Hid (cH I1 N SB DB XB t o (KT o la n lc ba nb bc ea ne ec) (Dp o C n D DB nb) (.slice C n D) n a b d ev c w wx/\∃dn dl dk,d= .slice dn dl dk))
 case first=>
  have t3:=AC (show ∀(Wc w7:World),Below SB w Wc->AE Wc SB 53 (KT o la n lc ba nb bc ea ne ec)->AE Wc (SB+1) 51 (Dp o C n D DB nb)->(∀x,x<N\/w.heap.size<=x->x<Wc.heap.size->w7.heap[x]? =Wc.heap[x]?)->(∃ov wv,AE w7 wb 47 [.pointer (some kp),qP kb 0,ov,wv,.bool false])->w7.cell? (xK wb 0)=some (.pointer (some kp))/\w7.cell? (xK SB 1)=some (iV o.a)/\AE w7 (SB+1) 51 (Dp o C n D DB nb) from λWc w7 hb q0 q1 v0 hr=>by
   obtain ⟨ov,wv,hr⟩:=hr;have j6:=Z.2;have z9:=AJ q0 (v0 _ (.inr om) q0.lt)
   exact ⟨hr.cell rfl,z9.cell rfl,AJ q1 (v0 _ (.inr om) q1.lt)⟩)
  have u7:=AC (show ∀Wc:World,Below SB w Wc->AE Wc DB 5 (AF (o.B++[71,72]))->Wc.ownsRow SB 9 1 (.slice C n D) n (o.ss.map Value.string)->cT 46 #[.pointer (some kp),iV o.a,.agg (Dp o C n D DB nb).toArray] Wc λe W'=>∃a b d v c,e= .returned (.tuple #[.agg #[iV a,iV b,d],v])/\(∃dn dl dk,d= .slice dn dl dk)/\(∀W2,Cd W' W2 w.heap.size Wc.heap.size->cT 8 #[v] W2 λe W3=>e= .returned (iV c)/\Below W2.heap.size W2 W3)/\I1 Wc.heap.size W' a b d c/\(W'.os=Wc.os/\W'.tape=Wc.tape/\W'.output=Wc.output/\Wc.heap.size<=W'.heap.size)/\∀x,x<N\/w.heap.size<=x->x<Wc.heap.size->W'.heap[x]? =Wc.heap[x]? from λWc hb q1 q2=>by
   have j6:=Z.2;rw [a5.1] at q2;have:=HH.prog Wc DB C D (by rw [<-j6];exact hb) (o1 g4.1) q1 (by rw [<-j6];exact q2);rw [<-a5.1,<-a5.2.1] at this
   exact this)
  have b6:Below SB w W5.drew:=p3.drew;have I:∀b,b<=W3.heap.size->W5.drew.ownsRow b 9 1 (.slice C n D) n (o.ss.map Value.string):=λb hb=>Km g2.2.2.2 hb;have i0:SB<=W3.heap.size:=o1 (AB g4);have Y:AE W5.drew SB 53 (KT o la n lc ba nb bc ea ne ec):=g2.1;have U:AE W5.drew (SB+1) 51 (Dp o C n D DB nb):=g2.2.1;have a6:AE W5.drew DB 5 (AF (o.B++[71,72])):=g2.2.2.1;have m5:Hid (∀(b:Nat) (w1 w2:World),b≠wb->SB+1<b->w1.grownBy w2 (some b)->(w1.cell? (xK wb 0)=some (.pointer (some kp))/\w1.cell? (xK SB 1)=some (iV o.a)/\AE w1 (SB+1) 51 (Dp o C n D DB nb))->w2.cell? (xK wb 0)=some (.pointer (some kp))/\w2.cell? (xK SB 1)=some (iV o.a)/\AE w2 (SB+1) 51 (Dp o C n D DB nb)):=λb w1 w2 n1 n2 hg q=>⟨hg.cell q.1 (by simpa using λe=>n1 e.symm),hg.cell q.2.1 sO,q.2.2.grown hg sO⟩
  have u0:=AC (show wb<SB from by obtain ⟨ov,wv,hr⟩:=HH.row0;rw [Z.2];exact hr.lt);have p5:∀(x:World) (ob:Obj),x.grownBy (x.alloc ob) none:=λx ob=>⟨rfl,rfl,rfl,sI,λb hb _=>((zw x.heap.size x).alloc (zx _) ob).block b hb⟩;refine Ak ?_;intro A hA;have e0:A.eval (.tmp 0)= qP wb 0:=eH hA;have e3:A.eval (.tmp 3)= qP SB 0:=eH hA;have e5:A.eval (.tmp 5)= qP (SB+1) 0:=eH hA;have l8:A.tmps.size=176:=eZ hA;have HA:=AC hA;clear hA;refine xf (S:=λw'=>w'.cell? (xK wb 0)=some (.pointer (some kp))/\w'.cell? (xK SB 1)=some (iV o.a)/\AE w' (SB+1) 51 (Dp o C n D DB nb)) kf i4 (λhS=> ?_);refine tq 0 36 rfl (yM (qP wb 0)) hS (tq 1 37 rfl (yN (xK wb 0)) hS (tq 2 38 rfl (yF (qP wb 0) (qP wb 0)) hS ?_))
  refine tq 3 39 rfl (yl R0) hS (tq 4 40 rfl (yF (qP SB 0) (qP SB 1)) hS (tq 5 41 rfl (yl R1) hS (tq 6 42 rfl (yl R2) hS ?_)));refine rdy [7,11] kf (vq rfl (λK hK=> ?_) (O6 rfl rfl 140 rfl _ Tl (some 8) rfl ⟨?_,λy5=> ?_⟩ vr))
  ·refine Bn rfl 46 _ _ rfl #[.pointer (some kp),iV o.a,.agg (Dp o C n D DB nb).toArray] sE YI _ (λe w' h=>by obtain ⟨_,_,_,_,_,he,_⟩:=h;exact ⟨_,he⟩) (AB u7 W5.drew b6 a6 (I SB i0)) (some 43) rfl ?_;rintro r7 w7 ⟨a,b,d,v,c,a8,f7,j2,d9,f6,c7⟩;have a8:r7= .tuple #[.agg #[iV a,iV b,d],v]:=by injection a8
   subst a8;have g6:=HH.row1 _ _ _ _ _ _ d9;have B1:wb<w7.heap.size:=by obtain ⟨_,_,hr⟩:=g6;exact hr.lt
   refine hK.out _ _ (AB t3 W5.drew w7 b6 Y U c7 g6) (λH=> ?_);clear hK K;refine tq 8 35 rfl (yM (.tuple #[.agg #[iV a,iV b,d],v])) H ?_;refine tq 9 44 rfl (Be rfl _ 0 rfl #[.agg #[iV a,iV b,d],v] sE (.agg #[iV a,iV b,d]) rfl) H ?_;refine tq 10 45 rfl (Be rfl _ 1 rfl #[.agg #[iV a,iV b,d],v] sE v rfl) H ?_;have A4:=f6.2.2.2;have o3:SB+1<W5.drew.heap.size:=U.lt;refine rdy [11] kf (O6 rfl rfl 140 rfl _ Tl (some 8) rfl ⟨AB m5 w7.heap.size _ _ om om (Tk (p5 _ _) _) H,λt5=> ?_⟩ vr);refine rdy [12] kf (CZ rfl rfl 140 _ _ rfl w7.heap.size 0 [iV a,iV b,d] sE sE 140 [iV 0,iV 0,sN] (AE.new w7 _ _) kf sI (λx hx=> ?_) rfl (λw9 h9 g9=>⟨AB m5 w7.heap.size _ _ om om g9 t5,λh5=> ?_⟩) vr)
   ·obtain ⟨dn,dl,dk,rfl⟩:=f7;simp only [vp,uu,or_false] at hx;rcases hx with h|h|h<;>(rw [h];rfl)
   have f8:=AC (show cH I1 N SB DB w7.heap.size W5.drew.heap.size o (KT o la n lc ba nb bc ea ne ec) (Dp o C n D DB nb) (.slice C n D) n a b d v c w w9/\∃dn dl dk,d= .slice dn dl dk from ⟨YJ (AB HH) (AB l4) Z.2 b6 Y U a6 (I W3.heap.size (zx _)) (o1 (AB g4)) g4.2 j2 d9 f6 c7 (by have:=AB h9;simpa [splice] using this) ⟨g9.os,g9.tape,g9.output,zg sI g9.size,λx hx hn=>by rw [g9.block x (by rw [World.size_alloc];omega) (λe=>hn (o1 (zr e)))];exact (p5 _ _).block x hx sI⟩ (.inl (zx _)) ⟨o1 a6.lt,λx e=>o1 ((I W3.heap.size (zx _)).lt x e).2⟩,f7⟩);clear f7 j2 d9 f6 c7 g6 t5 g9 h9;refine tq 13 9 rfl (yA v) h5 ?_;refine vg kf ?_ _;rw [AB HA];simp only [Act.put,zl,zh,zi];clear H h5 hS HA e0 e3 e5 l8
   go_wp2_with fail
   go_meet
   case rel=>exact ⟨w7.heap.size,_,a,b,c,d,rfl,f8⟩
  ·exact AB m5 W5.drew.heap.size _ _ (o2 (AB u0) Y.lt) U.lt (Tk (p5 _ _) _) hS
  ·have b5:=b6.alloc (show SB<=W5.drew.heap.size by have:=Y.lt;omega) (Obj.cells #[iV 0,iV 0,sN] 140);obtain ⟨Wa,p6⟩:=xE (W5.drew.alloc (Obj.cells #[iV 0,iV 0,sN] 140));have m1:Below W5.drew.heap.size W5.drew Wa:=by rw [p6];exact bA
   have s6:AE Wa W5.drew.heap.size 140 [iV 0,iV 0,sN]:=by rw [p6];exact AE.new _ _ _
   rw [<-p6] at y5 b5 ⊢;have a0:=Y.below m1 Y.lt;have a1:=U.below m1 U.lt;have a2:=a6.below m1 a6.lt;have a3:=Ck (I W3.heap.size (zx _)) (λx e=>m1.block x ((I W3.heap.size (zx _)).lt x e).2);have v4:=s6.lt;refine rdy [7] kf (vq rfl (λK hK=> ?_) vr);refine Bn rfl 46 _ _ rfl #[.pointer (some kp),iV o.a,.agg (Dp o C n D DB nb).toArray] sE YI _ (λe w' h=>by obtain ⟨_,_,_,_,_,he,_⟩:=h;exact ⟨_,he⟩) (AB u7 Wa b5 a2 (Km a3 i0)) (some 43) rfl ?_;rintro r7 w7 ⟨a,b,d,v,c,a8,f7,j2,d9,f6,c7⟩;have a8:r7= .tuple #[.agg #[iV a,iV b,d],v]:=by injection a8
   subst a8;have g6:=HH.row1 _ _ _ _ _ _ d9;refine hK.out _ _ (AB t3 Wa w7 b5 a0 a1 c7 g6) (λH=> ?_);clear hK K;refine tq 8 35 rfl (yM (.tuple #[.agg #[iV a,iV b,d],v])) H ?_;refine tq 9 44 rfl (Be rfl _ 0 rfl #[.agg #[iV a,iV b,d],v] sE (.agg #[iV a,iV b,d]) rfl) H ?_;refine tq 10 45 rfl (Be rfl _ 1 rfl #[.agg #[iV a,iV b,d],v] sE v rfl) H ?_;have A4:=f6.2.2.2;have A1:AE w7 W5.drew.heap.size 140 [iV 0,iV 0,sN]:=AJ s6 (c7 _ (.inr (o2 Y.lt Z.2)) v4);have o3:SB+1<W5.drew.heap.size:=U.lt;refine rdy [12] kf (CZ rfl rfl 140 _ _ rfl W5.drew.heap.size 0 [iV a,iV b,d] sE sE 140 [iV 0,iV 0,sN] A1 kf sI (λx hx=> ?_) rfl (λw9 h9 g9=>⟨AB m5 W5.drew.heap.size _ _ (o1 (AB u0)) om g9 H,λh5=> ?_⟩) vr)
   ·obtain ⟨dn,dl,dk,rfl⟩:=f7;simp only [vp,uu,or_false] at hx;rcases hx with h|h|h<;>(rw [h];rfl)
   have f8:=AC (show cH I1 N SB DB W5.drew.heap.size Wa.heap.size o (KT o la n lc ba nb bc ea ne ec) (Dp o C n D DB nb) (.slice C n D) n a b d v c w w9/\∃dn dl dk,d= .slice dn dl dk from ⟨YJ (AB HH) (AB l4) Z.2 b5 a0 a1 a2 a3 (o1 (AB g4)) g4.2 j2 d9 f6 c7 (by have:=AB h9;simpa [splice] using this) ⟨g9.os,g9.tape,g9.output,g9.size,λx hx hn=>g9.block x hx (λe=>hn (o1 (zr e)))⟩ (.inr v4) ⟨a6.lt,λx e=>((I W3.heap.size (zx _)).lt x e).2⟩,f7⟩);clear f7 j2 d9 f6 c7 g6 g9 h9;refine tq 13 9 rfl (yA v) h5 ?_;refine vg kf ?_ _;rw [AB HA];simp only [Act.put,zl,zh,zi];clear H h5 hS HA e0 e3 e5 l8
   go_wp2_with fail
   go_meet
   case rel=>exact ⟨W5.drew.heap.size,_,a,b,c,d,rfl,f8⟩
 case rest=>
  obtain ⟨XB,t,a,b,c,d,rfl,HD⟩:=hcut;have R:=HD.1;have B5:=AC HD.2;have c8:=AC Z.2;have v8:=AC (R.tell wc ⟨rfl,rfl,rfl,zx _,λ_ _ _=>rfl⟩);have A7:=AC R;clear R HD i4 R0 R1 R2 g2 p3 Z o5 a9 t7
  go_wp2_with fail
  refine v8.mono ?_;rintro e w8 ⟨rfl,f4⟩;have v5:=AC (jL c w8);have u2:=AC f4;clear f4 v8
  go_wp2_with fail
  refine v5.mono ?_;rintro e i7 ⟨rfl,y7⟩;subst y7;have R:=AB A7;have f4:=AB u2;have r4:N<=SB:=by rw [AB c8];exact AB l4
  have h3:=R.ne;have h2:KU I1 N SB XB t (KT o la n lc ba nb bc ea ne ec) (Dp o C n D DB nb) a b d c w i7:=KU.off HH c8 ⟨R.inv,R.low,R.op,R.cal,R.res,R.tl,r4,om⟩ (Cd.top f4) ⟨o1 R.cal.lt,.inr (zx _)⟩;have i9:=R.dat.below f4 R.dat.lt;have h8:=Ck R.lst (λx e=>f4.block x (R.lst.lt x e).2);have d8:cE i7 SB 8 (.slice ba nb bc):=h2.op.cell rfl;have h6:=h7.below h2.low;obtain ⟨A6,x9,A3,x3,i2,l0,l3⟩:=h6.bs;have x0:=g3.2.1.symm.trans i2;obtain ⟨rfl,rfl⟩:ba=A6/\bc=x3:=by injection x0 with q1 q2 q3;exact ⟨q1,q3⟩
  have t4:=AC (show cT 17 #[sL DB 0 nb (nb+2),.slice ba nb bc] i7 λe w'=>e= .returned (.bool true)/\i7.grownBy w' (some DB) from by
   rw [a5.2.1]
   exact ND DB ba x9 A3 bc o.B i7 i9 (λh0=>(l0 h0).1) l3 (o1 u4.1))
  obtain ⟨q7,n6,i1⟩:=H3 h2 h8 h3;clear R f4 r4 h3 h2 i9 h8 h6 i2 l0 l3 x0 v5 u2
  go_wp2_with fail
  refine t4.mono ?_;rintro e w9 ⟨rfl,o8⟩;have h9:=KU.off HH c8 q7 (Cd.ofGrown o8) ⟨o1 (AB i1),.inl (o1 (AB i1))⟩;have n8:=Ck n6 (λx e=>o8.block x (n6.lt x e).2 (λe2=>o2 (i1.2.2.2 x e) (zr e2)));have z5:=AC h9;have y6:=AC n8
  have A2:=AC (show 0<n->∃LB,C=some (xK LB 0)/\SB+1<LB/\LB<t/\LB<XB from λh0=>by
   rcases n8.2 with ⟨_,q⟩|⟨g,z1,x1,q1,_⟩
   ·omega
   ·have e:C=some (xK g 0):=by injection q1
    have:=i1.2.2.2 g (by rw [e];rfl)
    exact ⟨g,e,o1 (AB i1),this.2.1,this.2.2⟩)
  clear o8 h9 n8 t4 q7 n6 d8;go_wp2
  go_loopw [11,12] (λx6 iv wr=>∃j:Nat,j<=n/\x6= .bool true/\iv= iV j/\Hid (KU I1 N SB XB t (KT o la n lc ba nb bc ea ne ec) (Dp o C n D DB nb) a b d c w wr)/\Hid (∀i LB,j<=i->i<n->C=some (xK LB 0)->wr.cell? (xK LB i)=some (.string (o.ss.getD i ByteArray.empty))/\wr.frozen? (xK LB i)=false)) (λ_ iv _=>n-(intOf iv).toNat)
  case atStart=>
   refine ⟨0,om,rfl,rfl,z5,AC (λi LB _ hi hl=> ?_)⟩;subst hl;have hq:=AB y6;refine ⟨?_,hq.frozenAt i⟩;rw [hq.cellAt i om,ze,zk,zz (o1 a5.1)];rfl
  case round=>
   obtain ⟨j,hj,rfl,rfl,d7,o4⟩:=hrel;by_cases z8:j<n
   ·obtain ⟨LB,rfl,u9⟩:=AB A2 om;have a4:=AB d7;obtain ⟨o0,v9⟩:=AB o4 j LB (zx _) z8 rfl;have l7:cE wr SB 7 (.slice la n lc):=a4.op.cell rfl;obtain ⟨y0,B4,B2,z7,i8,i3,l1⟩:=(h7.below a4.low).strs;have s8:=g3.1.symm.trans i8;obtain ⟨rfl,rfl⟩:la=y0/\lc=z7:=by injection s8 with q1 q2 q3;exact ⟨q1,q3⟩
    have z6:=a5.1;obtain ⟨rfl,_⟩:=i3 om;have k0:=l1 j om;obtain ⟨x,hx⟩:=xE (o.ss.getD j ByteArray.empty);rw [<-hx] at o0 k0;have j0:(0:Int)<=(j:Int):=om;have j1:(j:Int)<(n:Int):=om;have t9:=AC u9;clear i8 i3 l1 s8 z6 hx a4 u9;go_wp2
    go_quiet (fail)
    obtain ⟨WD,d5⟩:=xE (wr.drewN nq);have A9:WD.cell? (xK LB j)=some (.string x):=by rw [d5];exact o0
    have B9:WD.frozen? (xK LB j)=false:=by rw [d5];exact v9
    have s5:wr.grownBy (WD.setCell (xK LB j) (.string ⟨#[109,105,110,101]⟩)) (some LB):=by rw [d5];exact AI (show wr.grownBy (wr.drewN nq) (some LB) from ⟨rfl,rfl,rfl,zx _,λ_ _ _=>rfl⟩) j _
    have y3:=AC (KU.off HH c8 d7 (Cd.ofGrown s5) ⟨t9.1,.inl t9.2⟩)
    have y8:=AC (show ∀i j4,j+1<=i->i<n->some ((xK LB 0):Addr)=some (xK j4 0)->(WD.setCell (xK LB j) (.string ⟨#[109,105,110,101]⟩)).cell? (xK j4 i)=some (.string (o.ss.getD i ByteArray.empty))/\(WD.setCell (xK LB j) (.string ⟨#[109,105,110,101]⟩)).frozen? (xK j4 i)=false from λi j4 B3 y1 hl=>by
     obtain rfl:LB=j4:=by injection hl with hl;injection hl
     obtain ⟨q1,q2⟩:=AB o4 i LB om y1 rfl;refine ⟨?_,?_⟩
     ·rw [yy _ _ _ _ (by simp<;>omega),d5];exact q1
     ·rw [World.frozen?_setCell,d5];exact q2)
    rw [<-d5];clear d5 s5 o0 k0 v9 l7;go_wp2;exact ⟨⟨j+1,om,rfl,sI,y3,y8⟩,by simp only [intOf];omega⟩
   ·obtain rfl:j=n:=om;have j1:¬(j:Int)<(j:Int):=om;have a4:=AB d7;have k3:cE wr SB 3 (iV o.ck):=a4.op.cell rfl;have k4:cE wr SB 4 (iV o.ca):=a4.op.cell rfl;have k5:cE wr SB 5 (iV o.cb):=a4.op.cell rfl;have k6:cE wr SB 6 (.string o.s):=a4.op.cell rfl;have k7:cE wr SB 7 (.slice la j lc):=a4.op.cell rfl;have k8:cE wr SB 8 (.slice ba nb bc):=a4.op.cell rfl
    have u6:=AC (show cT 47 #[.agg #[iV o.ck,iV o.ca,iV o.cb,.string o.s,.slice la j lc,.slice ba nb bc]] wr λe w'=>∃da dc,e= .returned (.agg #[iV o.ck,iV o.ca,iV o.cb,.string o.s,.slice la j lc,.slice da nb dc])/\w'.ownsRow wr.heap.size 5 1 (.slice da nb dc) nb (AF o.B)/\Below wr.heap.size wr w' from by
     have:=kZ o N wr (h7.below a4.low) (o2 a4.sz a4.op.lt) (o1 u4.1);unfold POp.call Rs at this;rw [g3.1,g3.2.1,<-a5.1,<-a5.2.1] at this
     exact this)
    clear a4
    go_wp2_with fail
    refine u6.mono ?_;rintro e l9 ⟨da,dc,rfl,n9,f0⟩;have m7:=KU.off HH c8 d7 (Cd.top f0) ⟨o1 d7.cal.lt,.inr (zx _)⟩;obtain ⟨b1,b4⟩:=xE (l9.alloc (Obj.cells #[iV o.ck,iV o.ca,iV o.cb,.string o.s,.slice la j lc,.slice da nb dc] 144));obtain ⟨CB,i6⟩:=xE l9.heap.size;have f3:Below l9.heap.size l9 b1:=by rw [b4];exact bA
    have V:=KU.off HH c8 m7 (Cd.top f3) ⟨o1 m7.cal.lt,.inr (zx _)⟩;have b2:AE b1 CB 144 [iV o.ck,iV o.ca,iV o.cb,.string o.s,.slice la j lc,.slice da nb dc]:=by rw [b4,i6];exact AE.new _ _ _
    have F:=Ck n9 (λx e=>f3.block x (n9.lt x e).2);have g0:cE b1 (SB+1) 0 (iV o.ck):=V.cal.cell rfl;have p2:(o.ck==20)=false:=sU q5;have d6:=AC (xi b4 i6);have i5:=AC (xi V (xi b2 F));have p9:=AC (show wr.heap.size<=CB/\SB+1<CB from ⟨by rw [i6];exact f0.size,by rw [i6];exact m7.cal.lt⟩);clear n9 f0 m7 b4 i6 f3 V b2 F u6 k3 k4 k5 k6 k7 k8
    go_upto_region 16 with fail
    rw [<-d6.1,<-d6.2];clear d6
    go_upto_region 19 with fail
    obtain ⟨V,b2,F⟩:=AB i5;have L:KU I1 N SB XB t (KT o la j lc ba nb bc ea ne ec) (Dp o C j D DB nb) a b d c w b1.drew:=⟨HH.keep1 _ _ _ _ _ _ _ V.inv ⟨rfl,rfl,rfl,zx _,λ_ _ _=>rfl⟩,V.low.drew,V.op,V.cal,V.res,V.tl,V.sz⟩;obtain ⟨ov,wv,G⟩:=HH.row1 _ _ _ _ _ _ L.inv;have i4:=AC (show b1.drew.cell? (xK wb 1)=some (qP kb 0)/\b1.drew.cell? (xK SB 1)=some (iV o.a)/\AE b1.drew CB 144 [iV o.ck,iV o.ca,iV o.cb,.string o.s,.slice la j lc,.slice da nb dc] from ⟨G.cell rfl,L.op.cell rfl,b2⟩)
    have R0:=AC (show ∀w':World,(w'.cell? (xK wb 1)=some (qP kb 0)/\w'.cell? (xK SB 1)=some (iV o.a)/\AE w' CB 144 [iV o.ck,iV o.ca,iV o.cb,.string o.s,.slice la j lc,.slice da nb dc])->(Instr.loadAt 45 (qP wb 1)).run Tryz.prog w'= .ok (qP kb 0) w' from λw' h=>by
     have c:=h.1;clear V b2 F L G g0
     go_simp)
    have R1:=AC (show ∀w':World,(w'.cell? (xK wb 1)=some (qP kb 0)/\w'.cell? (xK SB 1)=some (iV o.a)/\AE w' CB 144 [iV o.ck,iV o.ca,iV o.cb,.string o.s,.slice la j lc,.slice da nb dc])->(Instr.loadAt 3 (qP SB 1)).run Tryz.prog w'= .ok (iV o.a) w' from λw' h=>by
     have c:=h.2.1;clear V b2 F L G g0
     go_simp)
    have R2:=AC (show ∀w':World,(w'.cell? (xK wb 1)=some (qP kb 0)/\w'.cell? (xK SB 1)=some (iV o.a)/\AE w' CB 144 [iV o.ck,iV o.ca,iV o.cb,.string o.s,.slice la j lc,.slice da nb dc])->(Instr.loadAt 144 (qP CB 0)).run Tryz.prog w'= .ok (.agg #[iV o.ck,iV o.ca,iV o.cb,.string o.s,.slice la j lc,.slice da nb dc]) w' from λw' h=>by
     have c0:cE w' CB 0 (iV o.ck):=h.2.2.cell rfl;have c1:cE w' CB 1 (iV o.ca):=h.2.2.cell rfl;have c2:cE w' CB 2 (iV o.cb):=h.2.2.cell rfl;have c3:cE w' CB 3 (.string o.s):=h.2.2.cell rfl;have c4:cE w' CB 4 (.slice la j lc):=h.2.2.cell rfl;have c5:cE w' CB 5 (.slice da nb dc):=h.2.2.cell rfl;clear V b2 F L G g0 h
     go_simp)
    have j8:SB<=wr.heap.size:=o1 d7.op.lt;have m3:=AC (HH.ref t b1.drew a b d c L.inv da dc (by rw [<-AB c8,<-a5.2.1];exact Km F j8) (h7.below L.low));unfold Rs at m3;rw [g3.1,<-a5.1,<-a5.2.1] at m3;have k2:=AC L;have r3:=AC b2;clear V b2 F L G g0 p2 j8 i5 d7 o4;refine Ak ?_;intro A hA;have e0:A.eval (.tmp 0)= qP wb 0:=eH hA;have e3:A.eval (.tmp 3)= qP SB 0:=eH hA;have A5:A.eval (.tmp 13)= qP CB 0:=eH hA;have l8:A.tmps.size=176:=eZ hA;have HA:=AC hA;clear hA;refine xf (S:=λw'=>w'.cell? (xK wb 1)=some (qP kb 0)/\w'.cell? (xK SB 1)=some (iV o.a)/\AE w' CB 144 [iV o.ck,iV o.ca,iV o.cb,.string o.s,.slice la j lc,.slice da nb dc]) kf i4 (λhS=> ?_);refine tq 0 111 rfl (yM (qP wb 0)) hS (tq 1 112 rfl (yN (xK wb 0)) hS ?_)
    refine tq 2 113 rfl (yF (qP wb 0) (qP wb 1)) hS (tq 3 114 rfl (yl R0) hS (tq 4 115 rfl (yF (qP SB 0) (qP SB 1)) hS (tq 5 116 rfl (yl R1) hS (tq 6 117 rfl (yl R2) hS ?_))));refine rdy [7] kf (vq rfl (λK hK=> ?_) vr);refine Bn rfl 49 _ _ rfl #[qP kb 0,iV o.a,.agg #[iV o.ck,iV o.ca,iV o.cb,.string o.s,.slice la j lc,.slice da nb dc]] sE kc _ (λe w' h=>by obtain ⟨_,_,_,_,_,_,_,_,_,_,he,_⟩:=h;exact ⟨_,he⟩) m3 (some 118) rfl ?_;rintro r7 g1 ⟨r,O,qa,qo,ra,ro,dn,rn,dk,rk,a8,k0,o6,r5,rfl,rfl,s4,t6,v1,r6,o7,b9,p7⟩;have a8:r7= .tuple #[iV a,iV b,.slice rn O.length rk,iV c]:=by injection a8
    subst a8;have j6:=AB c8;have T:=AB k2;have d1:=AJ T.op (b9 _ om T.op.lt);have X:=AJ T.res (b9 _ (o1 T.sz) T.res.lt);have c6:=AJ (w':=g1) (show AE b1.drew CB _ _ from AB r3) (b9 _ (o1 (AB p9)) r3.lt);obtain ⟨B0,B7,c9⟩:=HH.row2 _ _ _ p7;refine hK.out _ _ ⟨c9.cell rfl,d1.cell rfl,c6⟩ (λH=> ?_);clear hK K;refine tq 8 110 rfl (yM (.tuple #[iV a,iV b,.slice rn O.length rk,iV c])) H ?_;refine tq 9 119 rfl (Be rfl _ 0 rfl #[iV a,iV b,.slice rn O.length rk,iV c] sE (iV a) rfl) H ?_;refine tq 10 120 rfl (Be rfl _ 1 rfl #[iV a,iV b,.slice rn O.length rk,iV c] sE (iV b) rfl) H ?_;refine tq 11 121 rfl (Be rfl _ 2 rfl #[iV a,iV b,.slice rn O.length rk,iV c] sE (.slice rn O.length rk) rfl) H ?_;refine tq 12 122 rfl (Be rfl _ 3 rfl #[iV a,iV b,.slice rn O.length rk,iV c] sE (iV c) rfl) H ?_
    refine tq 13 17 rfl (yA (iV a)) H ?_;refine tq 14 18 rfl (yA (iV b)) H ?_;refine tq 15 19 rfl (yA (.slice rn O.length rk)) H ?_;refine tq 16 20 rfl (yA (iV c)) H ?_;refine vg kf ?_ _;rw [AB HA];simp only [Act.put,zl,zh,zi];clear H hS HA e0 e3 A5 l8 i4 R0 R1 R2;have A8:wb<SB:=by rw [j6];obtain ⟨_,_,hr⟩:=HH.row0;exact hr.lt
    have q2:(c== -2)=false:=sU k0;have x2:g1.cell? (xK XB 2)=some (.slice dn O.length dk):=X.cell rfl;obtain ⟨ol,m6⟩:=xE O.length;have u8:=AC (show cT 28 #[.slice dn ol dk,.slice rn ol rk] g1 λe w'=>e= .returned (.bool true)/\w'.heap=g1.heap/\Below g1.heap.size g1 w' from by rw [m6];exact Jf dn rn qa qo dk ra ro rk O g1 s4 t6 v1 r6 r5);have v7:=AC p7;rw [<-m6] at v7 x2 o6 ⊢;have n3:=AC (xi X (xi (show wb<XB from o1 T.sz) m6));have t8:=AC o6;clear s4 t6 v1 r6 r5 o7 b9 p7 d1 X c6 c9 m6 o6 k0 T m3 k2 A8
    go_wp2_with fail
    refine u8.mono ?_;rintro e m4 ⟨rfl,n5,f9⟩;have f2:=HH.keep2 _ _ _ _ v7 f9;obtain ⟨x8,x5,a7⟩:=HH.row2 _ _ _ f2;have b8:=n3.1.below f9 n3.1.lt;rw [<-n3.2.2] at b8;have y2:cE m4 XB 2 (.slice dn ol dk):=b8.cell rfl;have v2:cE m4 wb 2 x8:=a7.cell rfl;have v3:cE m4 wb 3 x5:=a7.cell rfl;have z2:=a7.frozen 2;have z3:=a7.frozen 3;have C0:=n3.2.1;obtain ⟨k1,b3⟩:=xE ((m4.setCell (xK wb 2) (.slice dn ol dk)).setCell (xK wb 3) (.slice rn ol rk));have b7:AE k1 XB 140 [iV a,iV b,.slice dn ol dk]:=by rw [b3];exact (b8.set_other om 2 _).set_other om 3 _
    have HJ:=AC (show J k1 from by rw [b3];exact HH.fin _ _ _ f2);have t0:cE k1 XB 0 (iV a):=b7.cell rfl;have t1:cE k1 XB 1 (iV b):=b7.cell rfl;have t2:k1.cell? (xK XB 2)=some (.slice dn ol dk):=b7.cell rfl;have j9:=AC b3;clear n5 f9 f2 a7 b8 b7 b3 u8 x2
    go_upto_region 26 with fail
    rw [<-AB j9];clear j9 y2 v2 v3 z2 z3;by_cases l6:c=0
    ·subst l6;go_wp2;go_ret;exact ⟨rfl,AB HJ⟩
    ·have B8:(c==0)=false:=sU l6;have q9:=AB t8 l6;rw [q9] at t2;clear q9 l6 t8;go_wp2;rw [ma];go_wp2;go_ret;exact ⟨rfl,AB HJ⟩
end Go.Proofs.YtpcjkidgohpeoaaGreatDoor
