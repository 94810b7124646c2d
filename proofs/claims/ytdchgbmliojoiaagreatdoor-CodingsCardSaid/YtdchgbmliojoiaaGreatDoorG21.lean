import Derived.Test.YtdchgbmliojoiaaGreatDoorG16
import Derived.Test.YtdchgbmliojoiaaGreatDoorG12
set_option maxRecDepth 100000
set_option maxHeartbeats 4000000
set_option linter.unusedVariables false
set_option linter.unusedSimpArgs false
namespace Go.Proofs.YtdchgbmliojoiaaGreatDoor
section
open Go.RowKit
structure WU (w:World) (fb foff:Nat) (FZ:List AV):Prop where
 path:∀(i:Nat) (f:AV),FZ[i]? =some f->w.cell? (pK fb (foff+i*3))=some (.string f.path)
 dir:∀(i:Nat) (f:AV),FZ[i]? =some f->w.cell? (pK fb (foff+i*3+1))=some (.bool f.dir)
 bytes:∀(i:Nat) (f:AV),FZ[i]? =some f->∃a q o c,w.cell? (pK fb (foff+i*3+2))=some (.slice a f.bytes.length c)/\(0<f.bytes.length->a=some (pK q o)/\q<w.heap.size)/\BC w q o f.bytes
def Gd (lp lf lo li lb:Int) (v:Value):List Value:=[.int .i64 lp,.int .i64 lf,.int .i64 lo,.int .i64 li,.int .i64 lb,v]
def Eg (f:AV):Nat:=f.path.size+f.bytes.length
def Db (FZ:List AV) (j:Nat):Nat:=((FZ.take j).map Eg).sum
theorem Jc {FZ:List AV} {j:Nat} {f:AV} (h:FZ[j]? =some f):Db FZ (j+1)=Db FZ j+Eg f:=by
 unfold Db
 rw [List.take_add_one,h];simp
theorem Lu {FZ:List AV} {M:Nat} (hb:∀f∈FZ,Eg f<=M):∀j,Db FZ j<=j*M
 |0=>by simp [Db]
 |j+1=>by
  have h2:=Lu hb j
  rw [Nat.succ_mul]
  cases h:FZ[j]? with
  |none=>
   have e:FZ.take (j+1)=FZ.take j:=by rw [List.take_add_one,h];simp
   have e2:Db FZ (j+1)=Db FZ j:=by unfold Db;rw [e]
   omega
  |some f=>
   have h1:=hb f (zv h)
   rw [Jc h];omega
def Ge (FZ:List AV):Bool:=decide (FZ.length<=100)&&decide ((FZ.map Eg).sum<=200000)
end
section
open Go Go.RowKit
theorem FO (kb gp cp:Nat) (w:World) (h5:w.cell? (pK kb 5)=some (.slice (some (pK gp 0)) 1 cp)) (h0:w.cell? (pK gp 0)=some (.int .i64 1)):
  Calls Tryz.prog 20 #[pq kb 0,.int .i64 1] w fun e w'=>e= .returned (.int .i64 0)/\w'=w:=by
 go_enter Tryz.func20,Tryz.ntmps20
 go_wp2
 go_loop [5] (fun i=>i= .int .i64 0) (fun _=>0)
 case atStart=>exact rfl
 case round=>
  obtain rfl:=hrel
  go_wp2
  go_ret
  exact ⟨rfl,rfl⟩
def RH:List Int:=[0,0,0,0,0,0,0,0]
def AP.ended (p:AP) (st:Int):AP:={p with st:=2,su:=st,le:=0,PS:=[],F:=RH}
def Gj (w:World) (gp:Nat) (st:Int):World:=(((((((((((w.setCell (pK gp 2) (.int .i64 2)).setCell (pK gp 3) (.int .i64 st)).setCell (pK gp 4) (.int .i64 0)).setCell (pK gp 22) (.slice none 0 0)).setCell (pK gp 23) (.int .i64 0)).setCell (pK gp 24) (.int .i64 0)).setCell (pK gp 25) (.int .i64 0)).setCell (pK gp 26) (.int .i64 0)).setCell (pK gp 27) (.int .i64 0)).setCell (pK gp 28) (.int .i64 0)).setCell (pK gp 29) (.int .i64 0)).setCell (pK gp 30) (.int .i64 0)
theorem dE {w:World} {gp:Nat} {p:AP} {aa:Option Addr} {ga ca:Nat} (h:Ep w gp 0 p aa ga ca) (st:Int):Ep (Gj w gp st) gp 0 (p.ended st) none ga 0/\w.grownBy (Gj w gp st) (some gp)/\(Gj w gp st).heap.size=w.heap.size:=by
 refine ⟨⟨?_,fun h0=>absurd h0 (by simp [AP.ended]),fun i q hq=>by simp [AP.ended] at hq,fun i=> ?_,fun i=> ?_,h.apart,h.regs⟩,?_,?_⟩
 ·exact (Bi ((Bi ((Bi ((Bi ((Bi ((Bi ((Bi ((Bi ((Bi ((Bi ((Bi ((Bi (h.row) (j:=2) (by simp [BW]) (.int .i64 2))) (j:=3) (by simp [BW]) (.int .i64 st))) (j:=4) (by simp [BW]) (.int .i64 0))) (j:=22) (by simp [BW]) (.slice none 0 0))) (j:=23) (by simp [BW]) (.int .i64 0))) (j:=24) (by simp [BW]) (.int .i64 0))) (j:=25) (by simp [BW]) (.int .i64 0))) (j:=26) (by simp [BW]) (.int .i64 0))) (j:=27) (by simp [BW]) (.int .i64 0))) (j:=28) (by simp [BW]) (.int .i64 0))) (j:=29) (by simp [BW]) (.int .i64 0))) (j:=30) (by simp [BW]) (.int .i64 0))
 ·have:=h.fz i
  unfold Gj
  simpa using this
 ·have:=h.fp i
  unfold Gj
  simpa using this
 ·exact AS (AS (AS (AS (AS (AS (AS (AS (AS (AS (AS (AS (zk w (some gp)) 2 (.int .i64 2)) 3 (.int .i64 st)) 4 (.int .i64 0)) 22 (.slice none 0 0)) 23 (.int .i64 0)) 24 (.int .i64 0)) 25 (.int .i64 0)) 26 (.int .i64 0)) 27 (.int .i64 0)) 28 (.int .i64 0)) 29 (.int .i64 0)) 30 (.int .i64 0)
 ·unfold Gj
  simp [World.setCell]
def MY (base kb gp:Nat) (k:RK) (p:AP) (st:Int) (ga:Nat) (w:World) (e:Ending) (w':World):Prop:=
 e= .returned (.tuple #[])/\Ep w' gp 0 (p.ended st) none ga 0/\(∃v,AG w' kb 87 (k.cells v)/\w'.ownsRow w.heap.size 128 5 v k.inos.length (B0 k.inos))/\Al w w' kb gp
theorem dF (base kb g cap gp cp:Nat) (k:RK) (p:AP) (aa:Option Addr) (ga ca:Nat) (st:Int) (w:World) (hk:D9 w base kb g cap k) (hkb:kb<base) (hpv:k.pv= .slice (some (pK gp 0)) 1 cp) (hov:k.ov= .slice none 0 0) (hcv:k.cv= .slice none 0 0) (hn:k.inos.length<=100000) (hl:∀x∈k.inos,0<x.parent\/x.id=1) (hone:∀x∈k.inos,∃a n c,x.bytes= .slice a n c)
  (h:Ep w gp 0 p aa ga ca) (hpid:p.pid=1) (hpar:p.par=0) (hgk:gp≠kb) (hgg:gp≠g) (hgl:ga<w.heap.size) (hak:ga≠kb):
  Calls Tryz.prog 92 #[pq kb 0,.int .i64 1,.int .i64 st] w (MY base kb gp k p st ga w):=by
 obtain ⟨hr,hg5,hs5⟩:=dE h st
 have c5:w.cell? (pK kb 5)=some (.slice (some (pK gp 0)) 1 cp):=by rw [<-hpv];exact hk.1.cell rfl
 have c0:w.cell? (pK gp 0)=some (.int .i64 1):=by have:=h.row 0 _ rfl;rwa [zq,hpid] at this
 have HPR:=AC (FO kb gp cp w c5 c0)
 have c2:=h.row 2 _ rfl
 rw [zq] at c2
 have f2:=h.fp 2
 have c3:=h.row 3 _ rfl
 rw [zq] at c3
 have f3:=h.fp 3
 have c4:=h.row 4 _ rfl
 rw [zq] at c4
 have f4:=h.fp 4
 have c22:=h.row 22 _ rfl
 rw [zq] at c22
 have f22:=h.fp 22
 have c23:=h.row 23 _ rfl
 rw [zq] at c23
 have f23:=h.fp 23
 have c24:=h.row 24 _ rfl
 rw [zq] at c24
 have f24:=h.fp 24
 have c25:=h.row 25 _ rfl
 rw [zq] at c25
 have f25:=h.fp 25
 have c26:=h.row 26 _ rfl
 rw [zq] at c26
 have f26:=h.fp 26
 have c27:=h.row 27 _ rfl
 rw [zq] at c27
 have f27:=h.fp 27
 have c28:=h.row 28 _ rfl
 rw [zq] at c28
 have f28:=h.fp 28
 have c29:=h.row 29 _ rfl
 rw [zq] at c29
 have f29:=h.fp 29
 have c30:=h.row 30 _ rfl
 rw [zq] at c30
 have f30:=h.fp 30
 obtain ⟨W5,hW5⟩:∃W5,W5=Gj w gp st:=⟨_,rfl⟩
 rw [<-hW5] at hr hg5 hs5
 have hk5:D9 W5 base kb g cap k:=⟨hk.1.grown hg5 (by simpa using hgk.symm),hk.2.kept hg5 (.inr (by show some g≠some gp;simpa using hgg.symm))⟩
 have d5:W5.cell? (pK kb 5)=some (.slice (some (pK gp 0)) 1 cp):=by rw [<-hpv];exact hk5.1.cell rfl
 have d1:W5.cell? (pK gp 1)=some (.int .i64 0):=by have:=hr.row 1 _ rfl;rw [zq] at this;rw [this];show some (Value.int .i64 p.par)=_;rw [hpar]
 have HSW:=AC (YP base kb g cap k W5 hk5 hkb hov hcv hn hl hone)
 unfold Gj at hW5
 have HW5:=AC hW5
 have HR:=AC hr
 have HG5:=AC hg5
 have HS5:=AC hs5
 have HAK:=AC (And.intro hak hgl)
 have hgpl:gp<W5.heap.size:=zu _ _ d1
 clear hW5 hr hg5 hs5 hk h hk5 hl hone hpv hov hcv hpid hpar hak hgl
 go_enter Tryz.func92,Tryz.ntmps92
 go_wp2_with fail
 refine (AB HPR).mono ?_
 rintro e w1 ⟨rfl,hw1⟩
 subst hw1
 go_upto_region 7 with fail
 rw [<-AB HW5]
 clear HW5 HPR c5 c0 c2 f2 c3 f3 c4 f4 c22 f22 c23 f23 c24 f24 c25 f25 c26 f26 c27 f27 c28 f28 c29 f29 c30 f30
 go_wp2
 go_loop [8] (fun i=>∃j:Nat,j<=1/\i= .int .i64 j) (fun i=>1-(intOf i).toNat)
 case atStart=>exact ⟨0,by omega,rfl⟩
 case round=>
  obtain ⟨j,hj,rfl⟩:=hrel
  by_cases hj0:j=0
  ·subst hj0
   go_wp2
   go_round
   case rel=>exact ⟨1,by omega,rfl⟩
   case measure=>simp [intOf]
  ·have hj1:j=1:=by omega
   subst hj1
   go_wp2_with fail
   refine (AB HSW).mono ?_
   rintro e w6 ⟨rfl,v,hv1,hv2,hv3⟩
   have HE:=AC (show MY base kb gp k p st ga w1 (.returned (.tuple #[])) w6 from by
    have hs:=AB HS5
    rw [hs] at hv2
    have hg5:=AB HG5
    have hbl:∀b,b<w1.heap.size->b≠kb->w6.heap[b]? =W5.heap[b]? :=fun b hb hne=>hv3.block b (by omega) (by simpa using hne)
    have hr:=AB HR
    refine ⟨rfl,⟨fun j x hx=>hv3.cell (hr.row j x hx) (by simpa using hgk),hr.aa,fun i q hq=>by simp [AP.ended] at hq,fun i=> ?_,fun i=> ?_,hr.apart,hr.regs⟩,⟨v,hv1,hv2⟩,⟨hv3.os.trans hg5.os,hv3.tape.trans hg5.tape,hv3.output.trans hg5.output,zh hg5.size hv3.size,fun b hb h1 h2=>(hbl b hb h1).trans (hg5.block b hb (by simpa using h2))⟩⟩
    ·have:=hr.fz i
     unfold World.frozen? at this ⊢
     rw [hbl ga (AB HAK).2 (AB HAK).1]
     exact this
    ·have:=hr.fp i
     unfold World.frozen? at this ⊢
     rw [hbl gp (by omega) hgk]
     exact this)
   clear hv1 hv2 hv3 HSW
   go_wp2
   go_end0
   exact AB HE
end
end Go.Proofs.YtdchgbmliojoiaaGreatDoor
