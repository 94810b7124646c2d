import Derived.Test.YtdchgbmliojoiaaGreatDoorG23
import Derived.Test.YtdchgbmliojoiaaGreatDoorG19
set_option maxRecDepth 100000
set_option maxHeartbeats 1000000
set_option linter.unusedVariables false
set_option linter.unusedSimpArgs false
namespace Go.Proofs.YtdchgbmliojoiaaGreatDoor
open Go Go.RowKit
structure POk (p:AP):Prop where
 cnt:p.PS.length<=100000
 pages:∀q∈p.PS,q.bytes.length=256/\AY q.bytes
 pc:0<=p.pc/\p.pc<=18446744073709551615
 regs:∀r,0<=p.R.getD r 0/\p.R.getD r 0<=18446744073709551615
 pid:p.pid=1
 par:p.par=0
structure Td (w:World) (C base kb g cap gp cp:Nat) (k:RK) (p:AP) (aa:Option Addr) (ga ca:Nat):Prop where
 ker:D9 w base kb g cap k
 kbl:kb<base
 bs:base<=w.heap.size
 pv:k.pv= .slice (some (pK gp 0)) 1 cp
 ov:k.ov= .slice none 0 0
 cv:k.cv= .slice none 0 0
 cnt:k.inos.length<=100000
 linked:∀x∈k.inos,0<x.parent\/x.id=1
 bytes:∀x∈k.inos,∃a n c,x.bytes= .slice a n c
 proc:Ep w gp 0 p aa ga ca
 ok:POk p
 ne:gp≠kb/\gp≠g/\ga≠kb/\ga≠g
 gl:ga<w.heap.size
 low:C<=kb/\C<=g/\C<=gp/\C<=ga
structure Cl (w w':World) (B C:Nat):Prop where
 os:w'.os=w.os
 tape:w'.tape=w.tape
 output:w'.output=w.output
 size:w.heap.size<=w'.heap.size
 block:∀b,b<w.heap.size->¬(B<=b/\b<C)->w'.heap[b]? =w.heap[b]?
theorem Cl.cell {w w':World} {B C:Nat} (h:Cl w w' B C) {b i:Nat} {v:Value} (hc:w.cell? (pK b i)=some v) (hb:C<=b\/b<B):w'.cell? (pK b i)=some v:=by
 have hl:=zu w _ hc
 unfold World.cell? at hc ⊢
 rw [h.block b hl (by omega)]
 exact hc
theorem Ep.keeps {w w':World} {B C gp o:Nat} {p:AP} {aa:Option Addr} {ga ca:Nat} (h:Ep w gp o p aa ga ca) (hk:Cl w w' B C) (hp:C<=gp) (hg:C<=ga) (hgl:ga<w.heap.size):Ep w' gp o p aa ga ca:=by
 have hpl:gp<w.heap.size:=zu w _ (h.row 0 _ rfl)
 have hf:∀b i,b<w.heap.size->C<=b->w.frozen? (pK b i)=false->w'.frozen? (pK b i)=false:=fun b i hbl hc hv=>by unfold World.frozen? at hv ⊢;rw [hk.block b hbl (by omega)];exact hv
 refine ⟨fun j v hv=>hk.cell (h.row j v hv) (.inl hp),h.aa,fun i q hq=> ?_,fun i=>hf _ _ hgl hg (h.fz i),fun i=>hf _ _ hpl hp (h.fp i),h.apart,h.regs⟩
 obtain ⟨a,b,c⟩:=h.pages i q hq
 exact ⟨hk.cell a (.inl hg),hk.cell b (.inl hg),fun j v hv=>hk.cell (c j v hv) (.inl hg)⟩
theorem Td.keeps {w w':World} {B C base kb g cap gp cp:Nat} {k:RK} {p:AP} {aa:Option Addr} {ga ca:Nat} (h:Td w C base kb g cap gp cp k p aa ga ca) (hk:Cl w w' B C):Td w' C base kb g cap gp cp k p aa ga ca:=by
 have hgl:=h.ker.2.lt g rfl
 refine ⟨⟨?_,LJ h.ker.2 (hk.block g hgl.2 (by have:=h.low;omega))⟩,h.kbl,zh h.bs hk.size,h.pv,h.ov,h.cv,h.cnt,h.linked,h.bytes,h.proc.keeps hk h.low.2.2.1 h.low.2.2.2 h.gl,h.ok,h.ne,za h.gl hk.size,h.low⟩
 have:=h.ker.1
 unfold AG at this ⊢
 rw [hk.block kb h.ker.1.lt (by have:=h.low;omega)]
 exact this
theorem Te (n:Int) (w:World):Calls Tryz.prog 19 #[.int .i64 n] w fun e w'=>e= .returned (.int .i64 n)/\w'=w:=by
 go_enter Tryz.func19,Tryz.ntmps19
 go_wp2
 go_ret
 exact ⟨rfl,rfl⟩
theorem Cl.ofBelow {w w':World} {B C:Nat} (h:Below w.heap.size w w'):Cl w w' B C:=⟨h.os,h.tape,h.output,h.size,fun b hb _=>h.block b hb⟩
theorem O2 (wb:Nat) (kp:Addr) (B C base kb g cap gp cp:Nat) (k:RK) (p:AP) (aa:Option Addr) (ga ca:Nat) (w:World) (Post:World->World->Prop) (h0:w.cell? (pK wb 0)=some (.pointer (some kp))) (h1:w.cell? (pK wb 1)=some (pq kb 0)) (hwb:wb<B\/C<=wb) (h:Td w C base kb g cap gp cp k p aa ga ca) (hst:p.st=0) (hec:(AH p.PS p.pc).2=0->(AH p.PS p.pc).1.op≠24)
  (HPG:∀W,Below w.heap.size w W->Calls Tryz.prog 51 #[.pointer (some kp),.int .i64 1] W fun e W'=>e= .returned .nilIface/\Post W W'/\Cl W W' B C):
  Calls Tryz.prog 23 #[pq wb 0,.int .i64 1] w fun e w'=>e= .returned (.bool true)/\∃W W' W2,Below w.heap.size w W/\Post W W'/\Cl W W' B C/\Below W'.heap.size W' W2/\Km base kb gp k p aa ga ca W2 (.returned (.int .i64 0)) w':=by
 have c5:w.cell? (pK kb 5)=some (.slice (some (pK gp 0)) 1 cp):=by rw [<-h.pv];exact h.ker.1.cell rfl
 have c0:w.cell? (pK gp 0)=some (.int .i64 1):=by have:=h.proc.row 0 _ rfl;rwa [zq,h.ok.pid] at this
 have c2:w.cell? (pK gp 2)=some (.int .i64 0):=by have:=h.proc.row 2 _ rfl;rwa [zq,hst] at this
 have HPR:=AC (FO kb gp cp w c5 c0)
 have HH:=AC h
 have HE:=AC (And.intro hst hec)
 have HP:=AC HPG
 have HWB:=AC hwb
 clear h hst hec HPG hwb
 go_enter Tryz.func23,Tryz.ntmps23
 go_wp2_with fail
 refine (AB HPR).mono ?_
 rintro e w1 ⟨rfl,hw1⟩
 subst hw1
 go_upto_region 4 with fail
 obtain ⟨W1,hW1⟩:∃W1,W1=w1.alloc (Obj.cells #[.int .i64 0,.int .i64 0,.int .i64 0,.string ⟨#[]⟩,.slice none 0 0,.slice none 0 0] 146):=⟨_,rfl⟩
 have hb1:Below w1.heap.size w1 W1:=by rw [hW1];exact (zw _ _).alloc (zx _) _
 rw [<-hW1]
 have hk1:Td W1 C base kb g cap gp cp k p aa ga ca:=(AB HH).keeps (B:=B) (Cl.ofBelow hb1)
 have hcl:∀b i v,w1.cell? (pK b i)=some v->W1.cell? (pK b i)=some v:=fun b i v hv=>by rw [hb1.cell (p:=(pK b i)) (zu w1 _ hv)];exact hv
 have d0:=hcl _ _ _ h0
 have d1:=hcl _ _ _ h1
 have d5:=hcl _ _ _ c5
 have d2:=hcl _ _ _ c2
 have HNX:=AC (No aa ga ca gp 0 p.PS p.pc W1 ⟨hk1.proc.row 22 _ rfl,hk1.proc.row 5 _ rfl⟩ hk1.proc.aa hk1.proc.pages hk1.ok.cnt hk1.ok.pages hk1.ok.pc.1 hk1.ok.pc.2)
 obtain ⟨NX,hNX⟩:∃NX,NX=AH p.PS p.pc:=⟨_,rfl⟩
 rw [<-hNX] at HNX
 obtain ⟨⟨op,ia,ib,im⟩,tr⟩:=NX
 have HOP:=AC (show tr=0->op≠24 from fun q=>by have:=(AB HE).2;rw [<-hNX] at this;exact this q)
 have HK1:=AC hk1
 have HB1:=AC hb1
 have H00:=AC (And.intro h0 h1)
 clear hW1 hb1 hk1 hcl hNX c0 c2 c5 h0 h1 HPR
 go_wp2_with fail
 refine (AB HNX).mono ?_
 rintro e w2 ⟨rfl,hb2⟩
 unfold Q4
 obtain ⟨W3,hW3⟩:∃W3,W3=w2.alloc (Obj.cells #[.int .i64 op,.int .i64 ia,.int .i64 ib,.int .i64 im] 89):=⟨_,rfl⟩
 have HW3:=AC hW3
 have hb13:Below W1.heap.size W1 W3:=by rw [hW3];exact hb2.alloc hb2.size _
 have hB3:Below w1.heap.size w1 W3:=(AB HB1).trans (hb13.mono (AB HB1).size)
 have hI3:AG W3 w2.heap.size 89 [.int .i64 op,.int .i64 ia,.int .i64 ib,.int .i64 im]:=by rw [hW3];exact AG.new w2 89 _
 have i0:W3.cell? (pK w2.heap.size 0)=some (.int .i64 op):=hI3.cell rfl
 have e0:W3.cell? (pK wb 0)=some (.pointer (some kp)):=by rw [hb13.cell (p:=(pK wb 0)) (zu W1 _ d0)];exact d0
 have HST:=AC (AB HP W3 hB3)
 have HB3:=AC hB3
 clear hW3 hb13 hB3 hI3 hb2 HNX d0 d1 d5 d2
 go_upto_region 6 with fail
 rw [<-AB HW3]
 clear HW3
 have HGO:=AC (show (tr=0/\(tr==0)=true/\(op==24)=false)\/(tr==0)=false from by
  by_cases q:tr=0
  ·exact .inl ⟨q,by simpa using q,by simpa using AB HOP q⟩
  ·exact .inr (by simpa using q))
 have HTL:=AC (fun W=>KA W)
 rcases AB HGO with ⟨_,q0,q24⟩|q0
 all_goals (
  go_wp2_with fail
  refine (AB HST).mono ?_
  rintro e w4 ⟨rfl,hpost,hkc⟩
  have hk3:=(AB HH).keeps (B:=B) (Cl.ofBelow (AB HB3))
  have hk4:=hk3.keeps hkc
  have x1:w4.cell? (pK wb 1)=some (pq kb 0):=hkc.cell (by rw [(AB HB3).cell (p:=(pK wb 1)) (zu w1 _ (AB H00).2)];exact (AB H00).2) (by rcases AB HWB with q|q;exact .inr q;exact .inl q)
  have HK4:=AC hk4
  have HPO:=AC (And.intro hpost hkc)
  have HX1:=AC x1
  have HTN:=AC (KA w4)
  clear hk3 hk4 hpost hkc HST i0 e0 x1
  go_wp2_with fail
  refine (AB HTN).mono ?_
  rintro e w5 ⟨rfl,hb5⟩
  have hk5:=(AB HK4).keeps (B:=B) (Cl.ofBelow hb5)
  have x1:w5.cell? (pK wb 1)=some (pq kb 0):=by rw [hb5.cell (p:=(pK wb 1)) (zu w4 _ (AB HX1))];exact AB HX1
  have HSR:=AC (Tc base kb g cap gp cp k p aa ga ca w5 hk5.ker hk5.kbl hk5.pv hk5.ov hk5.cv hk5.cnt hk5.linked hk5.bytes hk5.proc hk5.ok.pid hk5.ok.par (AB HE).1 hk5.ne.1 hk5.ne.2.1 hk5.gl hk5.ne.2.2.1 hk5.ne.2.2.2 hk5.ok.cnt hk5.ok.pages hk5.ok.pc hk5.ok.regs (AB HE).2 hk5.bs)
  have HB5:=AC hb5
  clear hk5 hb5 HTN
  go_wp2_with (go_at_call 19;refine (Te _ _).mono ?_;rintro e w8 ⟨rfl,rfl⟩)
  refine (AB HSR).mono ?_
  intro e w6 h6
  obtain rfl:=h6.end_
  have HF:=AC (show ∃W W' W2,Below w1.heap.size w1 W/\Post W W'/\Cl W W' B C/\Below W'.heap.size W' W2/\Km base kb gp k p aa ga ca W2 (.returned (.int .i64 0)) w6 from ⟨W3,w4,_,AB HB3,(AB HPO).1,(AB HPO).2,AB HB5,h6⟩)
  clear h6 HSR x1
  go_wp2
  go_ret
  exact ⟨rfl,AB HF⟩)
def Kid (xs:List Ino) (i j:Nat):Prop:=∃x y,xs[i]? =some x/\xs[j]? =some y/\y.parent=x.id/\y.parent≠0
def eJ (xs:List Ino) (a:Nat):Nat->Nat->Prop
 |0,j=>Kid xs a j
 |n+1,j=>∃m,eJ xs a n m/\Kid xs m j
def Cq (xs:List Ino) (a j:Nat):Prop:=∃n,eJ xs a n j
theorem Cq.kid {xs:List Ino} {a j:Nat} (h:Kid xs a j):Cq xs a j:=⟨0,h⟩
theorem Cq.step {xs:List Ino} {a m j:Nat} (h:Cq xs a m) (k:Kid xs m j):Cq xs a j:=by
 obtain ⟨n,hn⟩:=h
 exact ⟨n+1,m,hn,k⟩
theorem Cq.parts {xs:List Ino} {a j:Nat} (h:Cq xs a j):Kid xs a j\/∃m,Cq xs a m/\Kid xs m j:=by
 obtain ⟨n,hn⟩:=h
 cases n with
 |zero=>exact .inl hn
 |succ n=>
  obtain ⟨m,h1,h2⟩:=hn
  exact .inr ⟨m,⟨n,h1⟩,h2⟩
theorem Cq.ind {xs:List Ino} {a:Nat} {C:Nat->Prop} (hk:∀j,Kid xs a j->C j) (hs:∀m j,Cq xs a m->Kid xs m j->C m->C j):∀j,Cq xs a j->C j:=by
 rintro j ⟨n,hn⟩
 induction n generalizing j with
 |zero=>exact hk j hn
 |succ n ih=>
  obtain ⟨m,h1,h2⟩:=hn
  exact hs m j ⟨n,h1⟩ h2 (ih m h1)
theorem fN {xs:List Ino} (hinc:xs.Pairwise (fun x y=>x.id<y.id)) {i j:Nat} {x y:Ino} (hx:xs[i]? =some x) (hy:xs[j]? =some y) (h:x.id<y.id):i<j:=by
 obtain ⟨hi,rfl⟩:=zy.1 hx
 obtain ⟨hj,rfl⟩:=zy.1 hy
 have hp:=List.pairwise_iff_getElem.1 hinc
 rcases Nat.lt_trichotomy i j with q|q|q
 ·exact q
 ·subst q;omega
 ·have:=hp j i hj hi q;omega
theorem Gt {xs:List Ino} (hinc:xs.Pairwise (fun x y=>x.id<y.id)) {i j:Nat} {x y:Ino} (hx:xs[i]? =some x) (hy:xs[j]? =some y) (h:x.id=y.id):i=j:=by
 obtain ⟨hi,rfl⟩:=zy.1 hx
 obtain ⟨hj,rfl⟩:=zy.1 hy
 have hp:=List.pairwise_iff_getElem.1 hinc
 rcases Nat.lt_trichotomy i j with q|q|q
 ·have:=hp i j hi hj q;omega
 ·exact q
 ·have:=hp j i hj hi q;omega
theorem Kid.lt {p:PK} (hi:Bo p) {i j:Nat} (h:Kid p.xs i j):i<j:=by
 obtain ⟨x,y,hx,hy,hp,_⟩:=h
 refine fN hi.incr hx hy ?_
 have:=(hi.down y (zv hy)).2
 omega
theorem Kid.uniq {p:PK} (hi:Bo p) {i i' j:Nat} (h:Kid p.xs i j) (h':Kid p.xs i' j):i=i':=by
 obtain ⟨x,y,hx,hy,hp,_⟩:=h
 obtain ⟨x',y',hx',hy',hp',_⟩:=h'
 rw [hy] at hy'
 obtain rfl:=zr hy'
 exact Gt hi.incr hx hx' (by omega)
theorem Kid.bound {xs:List Ino} {i j:Nat} (h:Kid xs i j):i<xs.length/\j<xs.length:=by
 obtain ⟨x,y,hx,hy,_⟩:=h
 exact ⟨(zy.1 hx).1,(zy.1 hy).1⟩
theorem Cq.lt {p:PK} (hi:Bo p) {a j:Nat} (h:Cq p.xs a j):a<j:=by
 refine Cq.ind (C:=fun j=>a<j) (fun j hk=>hk.lt hi) (fun m j _ hk ih=> ?_) j h
 have:=hk.lt hi
 omega
theorem Cq.bound {xs:List Ino} {a j:Nat} (h:Cq xs a j):j<xs.length:=by
 rcases h.parts with hk|⟨m,_,hk⟩
 ·exact hk.bound.2
 ·exact hk.bound.2
theorem Cq.head {xs:List Ino} {a j:Nat} (h:Cq xs a j):∃c,Kid xs a c/\(c=j\/Cq xs c j):=by
 refine Cq.ind (C:=fun j=>∃c,Kid xs a c/\(c=j\/Cq xs c j)) (fun j hk=>⟨_,hk,.inl rfl⟩) (fun m j _ hk ih=> ?_) j h
 obtain ⟨c,h1,h2⟩:=ih
 refine ⟨c,h1,.inr ?_⟩
 rcases h2 with rfl|h2
 ·exact Cq.kid hk
 ·exact Cq.step h2 hk
theorem Cq.cons {xs:List Ino} {a c j:Nat} (h:Kid xs a c) (h2:Cq xs c j):Cq xs a j:=by
 exact Cq.ind (C:=fun j=>Cq xs a j) (fun j hk=>Cq.step (Cq.kid h) hk) (fun m j _ hk ih=>Cq.step ih hk) j h2
theorem Cq.chain {p:PK} (hi:Bo p) {a b j:Nat} (h:Cq p.xs a j):Cq p.xs b j->a=b\/Cq p.xs a b\/Cq p.xs b a:=by
 refine Cq.ind (C:=fun j=>Cq p.xs b j->a=b\/Cq p.xs a b\/Cq p.xs b a) (fun j hk h2=> ?_) (fun m j hm hk ih h2=> ?_) j h
 ·rcases h2.parts with hk2|⟨m,hm,hk2⟩
  ·exact .inl (hk.uniq hi hk2)
  ·rw [hk.uniq hi hk2];exact .inr (.inr hm)
 ·rcases h2.parts with hk2|⟨m2,hm2,hk2⟩
  ·rw [<-hk.uniq hi hk2];exact .inr (.inl hm)
  ·rw [<-hk.uniq hi hk2] at hm2;exact ih hm2
theorem Ra {p:PK} (hi:Bo p) {i c c':Nat} (h:Kid p.xs i c) (h':Kid p.xs i c'):¬Cq p.xs c' c:=by
 intro hd
 have hl:=h'.lt hi
 rcases hd.parts with hk|⟨m,hm,hk⟩
 ·have:=h.uniq hi hk
  omega
 ·have e:=h.uniq hi hk
  subst e
  have:=hm.lt hi
  omega
theorem sib {p:PK} (hi:Bo p) {i c c' j:Nat} (h:Kid p.xs i c) (h':Kid p.xs i c') (hc:j=c\/Cq p.xs c j) (hc':j=c'\/Cq p.xs c' j):c=c':=by
 rcases hc with rfl|hc
 ·rcases hc' with rfl|hc'
  ·rfl
  ·exact (Ra hi h h' hc').elim
 ·rcases hc' with rfl|hc'
  ·exact (Ra hi h' h hc).elim
  ·rcases hc.chain hi hc' with q|q|q
   ·exact q
   ·exact (Ra hi h' h q).elim
   ·exact (Ra hi h h' q).elim
theorem FQ {p:PK} (hi:Bo p) {j:Nat} {y:Ino} (hy:p.xs[j]? =some y) (hp:y.parent≠0):∃m x,p.xs[m]? =some x/\x.id=y.parent/\x.dir=true/\Kid p.xs m j:=by
 obtain ⟨x,hx,h1,h2⟩:=hi.parents y (zv hy) hp
 obtain ⟨m,hm⟩:=yo.1 hx
 exact ⟨m,x,hm,h1,h2,x,y,hm,hy,h1.symm,hp⟩
theorem Ym {p:PK} (hi:Bo p) {x0:Ino} (h0:p.xs[0]? =some x0) (h01:x0.id=1):∀(j:Nat),0<j->j<p.xs.length->Cq p.xs 0 j:=by
 intro j
 induction j using Nat.strongRecOn with
 |ind j ih=>
  intro hj hl
  obtain ⟨y,hy⟩:∃y,p.xs[j]? =some y:=⟨_,zz hl⟩
  have hp:y.parent≠0:=by
   intro e
   have h1:=(hi.root1 y (zv hy) e).1
   have:=Gt hi.incr h0 hy (by omega)
   omega
  obtain ⟨m,x,hm,_,_,hk⟩:=FQ hi hy hp
  have hmj:=hk.lt hi
  by_cases hm0:m=0
  ·subst hm0;exact .kid hk
  ·exact .step (ih m hmj (by omega) (by omega)) hk
theorem Ts {p:PK} (hi:Bo p) {i j:Nat} {x:Ino} (hx:p.xs[i]? =some x) (hd:x.dir=false):¬Kid p.xs i j:=by
 rintro ⟨x',y,hx',hy,hp,hp0⟩
 rw [hx] at hx'
 obtain rfl:=zr hx'
 obtain ⟨m,z,hm,hz,hzd,hk⟩:=FQ hi hy hp0
 have:=Gt hi.incr hx hm (by omega)
 subst this
 rw [hx] at hm
 obtain rfl:=zr hm
 rw [hd] at hzd
 cases hzd
theorem dk {xs:List Ino} (hinc:xs.Pairwise (fun x y=>x.id<y.id)) {i:Nat} {x:Ino} (hx:xs[i]? =some x):xs.find? (fun y=>y.id==x.id)=some x:=by
 cases hf:xs.find? (fun y=>y.id==x.id) with
 |none=>
  have:=xv.1 hf x (zv hx)
  simp at this
 |some y=>
  obtain ⟨he,j,hj,hy,_⟩:=List.find?_eq_some_iff_getElem.1 hf
  have he':y.id=x.id:=by simpa using he
  have:=Gt hinc (zy.2 ⟨hj,hy⟩) hx he'
  subst this
  rw [zz hj,hy] at hx
  exact hx
theorem J8 {p:PK} (hi:Bo p) {j:Nat} {y:Ino} (hy:p.xs[j]? =some y) (hp:y.parent≠0):Ci p.xs y.id=Ci p.xs y.parent++(Ey++y.name):=by
 have hm:=zv hy
 have hd:=hi.down y hm
 have hdn:∀x∈p.xs,x.parent<x.id:=fun x hx=>(hi.down x hx).2
 unfold Ci
 rw [Pe hdn (by omega) (by omega) (dk hi.incr hy),Io,In hdn y.id.toNat y.parent.toNat y.parent _ (by omega) (by omega)]
 simp
theorem Vg:∀(A B n m:List UInt8),(∀c∈n,c≠47)->(∀c∈m,c≠47)->A++47::n=B++47::m->A=B/\n=m:=by
 intro A B n m hn hm h
 rcases List.append_eq_append_iff.1 h with ⟨c,h1,h2⟩|⟨c,h1,h2⟩
 ·cases c with
  |nil=>simp at h1 h2;exact ⟨h1.symm,h2⟩
  |cons d r=>
   simp at h2
   have:(47:UInt8)∈n:=by rw [h2.2];simp
   exact absurd rfl (hn 47 this)
 ·cases c with
  |nil=>simp at h1 h2;exact ⟨h1,h2.symm⟩
  |cons d r=>
   simp at h2
   have:(47:UInt8)∈m:=by rw [h2.2];simp
   exact absurd rfl (hm 47 this)
theorem OD {s:ByteArray} (h:Bc s=true):∀c∈s.data.toList,c≠47:=by
 intro c hc
 unfold Bc at h
 simp only [Bool.and_eq_true] at h
 have:=zb.1 h.2 c hc
 simp at this
 exact this.2
theorem Hd {p:PK} (hi:Bo p) {j:Nat} {y:Ino} (hy:p.xs[j]? =some y) (hp:y.parent≠0):(Ci p.xs y.id).data.toList=(Ci p.xs y.parent).data.toList++47::y.name.data.toList:=by
 rw [J8 hi hy hp]
 simp [Ey,ByteArray.data_append]
theorem LK {p:PK} (hi:Bo p) {j:Nat} {y:Ino} (hy:p.xs[j]? =some y) (hp:y.parent=0):(Ci p.xs y.id).data.toList=[]:=by
 rw [Lm (by rw [(hi.root1 y (zv hy) hp).1];omega)]
 rfl
theorem bi {p:PK} (hi:Bo p):∀(i j:Nat) (x y:Ino),p.xs[i]? =some x->p.xs[j]? =some y->(Ci p.xs x.id).data.toList=(Ci p.xs y.id).data.toList->i=j:=by
 intro i
 induction i using Nat.strongRecOn with
 |ind i ih=>
  intro j x y hx hy h
  by_cases hx0:x.parent=0
  ·by_cases hy0:y.parent=0
   ·exact Gt hi.incr hx hy (by rw [(hi.root1 x (zv hx) hx0).1,(hi.root1 y (zv hy) hy0).1])
   ·rw [LK hi hx hx0,Hd hi hy hy0] at h
    simp at h
  ·by_cases hy0:y.parent=0
   ·rw [LK hi hy hy0,Hd hi hx hx0] at h
    simp at h
   ·rw [Hd hi hx hx0,Hd hi hy hy0] at h
    obtain ⟨h1,h2⟩:=Vg _ _ _ _ (OD (hi.names x (zv hx) hx0)) (OD (hi.names y (zv hy) hy0)) h
    obtain ⟨a,xa,ha,ha1,_,hka⟩:=FQ hi hx hx0
    obtain ⟨b,xb,hb,hb1,_,hkb⟩:=FQ hi hy hy0
    rw [<-ha1,<-hb1] at h1
    have hab:=ih a (hka.lt hi) b xa xb ha hb h1
    subst hab
    rw [ha] at hb
    obtain rfl:=zr hb
    refine Gt hi.incr hx hy (hi.kids x (zv hx) y (zv hy) (by omega) hx0 ?_)
    rw [ByteArray.toList_eq,ByteArray.toList_eq]
    exact h2
theorem Vh {p:PK} (hi:Bo p) {NB:List Nat} {i b:Nat} {x:Ino} {s:ByteArray} (hx:p.xs[i]? =some x) (h:D4 p.xs NB x.id s=some b):∃j y,Kid p.xs i j/\p.xs[j]? =some y/\y.name=s/\NB[j]? =some b:=by
 unfold D4 at h
 cases hf:p.xs.findIdx? (Az x.id s) with
 |none=>rw [hf] at h;cases h
 |some j=>
  rw [hf] at h
  obtain ⟨hj,he,_⟩:=List.findIdx?_eq_some_iff_getElem.1 hf
  unfold Az at he
  simp only [Bool.and_eq_true,beq_iff_eq] at he
  have h1:=(hi.ids x (zv hx)).1
  refine ⟨j,p.xs[j],⟨x,p.xs[j],hx,zz hj,he.1,by omega⟩,zz hj,NW ?_,h⟩
  have h2:=he.2
  rw [ByteArray.toList_eq,ByteArray.toList_eq] at h2
  exact h2
theorem Vi {p:PK} (hi:Bo p) {NB:List Nat} {i j:Nat} {x y:Ino} (hx:p.xs[i]? =some x) (hy:p.xs[j]? =some y) (hk:Kid p.xs i j) (hl:NB.length=p.xs.length):D4 p.xs NB x.id y.name=NB[j]? :=by
 obtain ⟨x',y',hx',hy',hp,hp0⟩:=hk
 rw [hx] at hx'
 obtain rfl:=zr hx'
 rw [hy] at hy'
 obtain rfl:=zr hy'
 have hj:=(zy.1 hy).1
 unfold D4
 cases hf:p.xs.findIdx? (Az x.id y.name) with
 |none=>
  have:=List.findIdx?_eq_none_iff.1 hf y (zv hy)
  unfold Az at this
  simp [hp] at this
 |some k=>
  obtain ⟨hk,he,_⟩:=List.findIdx?_eq_some_iff_getElem.1 hf
  unfold Az at he
  simp only [Bool.and_eq_true,beq_iff_eq] at he
  have e:k=j:=Gt hi.incr (zz hk) hy (hi.kids _ (List.getElem_mem hk) y (zv hy) (by omega) (by omega) he.2)
  rw [e]
def C6 (N wb:Nat) (w w':World):Prop:=(∀(b:Nat) (t:TypeId) (vs:List Value),t=36->b<N\/wb<=b->AG w b t vs->AG w' b t vs)/\(N<=w.heap.size->Below N w w')
def ET (n:Int):List Value:=[.int .i64 1,.int .i64 1,.int .i64 n,.int .i64 0,.int .i64 0,.int .i64 0,.string ⟨#[]⟩,.slice none 0 0,.slice none 0 0,.slice none 0 0]
def dn (wb:Nat) (w:World):Prop:=w.cell? (pK wb 2)=some (.slice none 0 0)/\w.cell? (pK wb 3)=some (.slice none 0 0)/\w.cell? (pK wb 4)=some (.bool false)
theorem Vu:∀args w,(callFunc 28 args).run Tryz.prog w= .ok (.enter 28 args) w:=enters_of Tryz.func28 (by kernel_rfl) rfl
theorem bp (N wb:Nat) (n:Int) (hn:n=0\/n=1) (I J:World->Prop) (w:World) (hI:I w) (hIb:∀w w',I w->Below w.heap.size w w'->I w') (hJb:∀w w',J w->Below w.heap.size w w'->J w') (h0:n=0->∀w,I w->J w) (h1:n=1->∀w,I w->Calls Tryz.prog 23 #[pq wb 0,.int .i64 1] w fun e w'=>e= .returned (.bool true)/\J w'/\C6 N wb w w') (hIw:∀w,I w->dn wb w) (hJw:∀w,J w->dn wb w)
  (hpr:∀w,J w->Calls Tryz.prog 29 #[pq wb 0] w fun e w'=>e= .returned (.bool true)/\Below w.heap.size w w')
  (hfi:∀w,J w->Calls Tryz.prog 30 #[pq wb 0] w fun e w'=>e= .returned (.bool true)/\Below w.heap.size w w') (hil:∀w,I w->wb<w.heap.size):
  Calls Tryz.prog 12 #[pq wb 0,.agg (ET n).toArray] w fun e w'=>e= .returned (.bool true)/\J w':=by
 unfold ET
 obtain ⟨W1,hW1⟩:∃W1,W1=w.alloc (Obj.cells #[.int .i64 1,.int .i64 1,.int .i64 n,.int .i64 0,.int .i64 0,.int .i64 0,.string ⟨#[]⟩,.slice none 0 0,.slice none 0 0,.slice none 0 0] 36):=⟨_,rfl⟩
 have hb1:Below w.heap.size w W1:=by rw [hW1];exact (zw _ _).alloc (zx _) _
 have hr1:AG W1 w.heap.size 36 [.int .i64 1,.int .i64 1,.int .i64 n,.int .i64 0,.int .i64 0,.int .i64 0,.string ⟨#[]⟩,.slice none 0 0,.slice none 0 0,.slice none 0 0]:=by rw [hW1];exact AG.new w 36 _
 have hI1:=hIb _ _ hI hb1
 obtain ⟨OB,hOB⟩:∃OB,OB=w.heap.size:=⟨_,rfl⟩
 rw [<-hOB] at hr1
 have HWO:=AC (show wb<=OB from by have:=hil w hI;omega)
 have c0:W1.cell? (pK OB 0)=some (.int .i64 1):=hr1.cell rfl
 have c1:W1.cell? (pK OB 1)=some (.int .i64 1):=hr1.cell rfl
 have c2:W1.cell? (pK OB 2)=some (.int .i64 n):=hr1.cell rfl
 have c4:=(hIw _ hI1).2.2
 have HW1:=AC hW1
 have HI1:=AC hI1
 have HA:=AC (And.intro h0 (And.intro h1 (And.intro hJw (And.intro hpr (And.intro hfi hJb)))))
 have HR1:=AC hr1
 clear hW1 hb1 hI1 hI h0 h1 hIw hJw hpr hfi hIb hJb hil hr1
 go_enter Tryz.func12,Tryz.ntmps12
 go_upto_region 1 with fail
 rw [<-AB HW1,<-hOB]
 clear HW1 hOB
 go_wp2
 go_loopw [5,6] (fun okv iv wr=>∃j:Nat,j<=1/\(j:Int)<=n/\okv= .bool true/\iv= .int .i64 j/\Hid ((j=0->wr=W1)/\(j=1->J wr/\AG wr OB 36 [.int .i64 1,.int .i64 1,.int .i64 n,.int .i64 0,.int .i64 0,.int .i64 0,.string ⟨#[]⟩,.slice none 0 0,.slice none 0 0,.slice none 0 0]))) (fun _ iv _=>1-(intOf iv).toNat)
 case atStart=>exact ⟨0,by omega,by omega,rfl,rfl,AC ⟨fun _=>rfl,fun h=>by omega⟩⟩
 case round=>
  obtain ⟨j,hj,hjn,rfl,rfl,HW⟩:=hrel
  by_cases hlt:(j:Int)<n
  ·have hj0:j=0:=by omega
   have hn1:n=1:=by omega
   subst hj0
   obtain rfl:=(AB HW).1 rfl
   have HS:=AC ((AB HA).2.1 hn1 wr (AB HI1))
   subst hn1
   go_wp2_with fail
   refine (AB HS).mono ?_
   rintro e w2 ⟨rfl,hJ2,hk2⟩
   have HJ2:=AC (And.intro hJ2 (hk2.1 _ _ _ rfl (.inr (AB HWO)) (AB HR1)))
   clear hJ2 hk2 HS
   go_wp2
   exact ⟨⟨1,by omega,by omega,rfl,rfl,AC ⟨fun h=>by omega,fun _=>AB HJ2⟩⟩,by simp [intOf]⟩
  ·obtain ⟨hJ,hrow⟩:J wr/\AG wr OB 36 [.int .i64 1,.int .i64 1,.int .i64 n,.int .i64 0,.int .i64 0,.int .i64 0,.string ⟨#[]⟩,.slice none 0 0,.slice none 0 0,.slice none 0 0]:=by
    rcases hn with hn0|hn1
    ·have hj0:j=0:=by omega
     have e:=(AB HW).1 hj0
     rw [e]
     exact ⟨(AB HA).1 hn0 _ (AB HI1),AB HR1⟩
    ·exact (AB HW).2 (by omega)
   have d2:wr.cell? (pK OB 2)=some (.int .i64 n):=hrow.cell rfl
   have d4:=((AB HA).2.2.1 wr hJ).2.2
   have HJ:=AC hJ
   have HPR:=AC ((AB HA).2.2.2.1 wr hJ)
   clear hrow hJ c0 c1 c2 c4 HW
   go_wp2_with fail
   refine (AB HPR).mono ?_
   rintro e w3 ⟨rfl,hb3⟩
   have hJ3:=(AB HA).2.2.2.2.2 wr w3 (AB HJ) hb3
   have HJ3:=AC hJ3
   have HFI:=AC ((AB HA).2.2.2.2.1 w3 hJ3)
   clear hb3 hJ3 HPR d2 d4
   go_wp2_with fail
   refine (AB HFI).mono ?_
   rintro e w4 ⟨rfl,hb4⟩
   have hJ4:=(AB HA).2.2.2.2.2 w3 w4 (AB HJ3) hb4
   have hl4:=(AB HA).2.2.1 w4 hJ4
   have HJ4:=AC hJ4
   have HL4:=AC (And.intro hl4.1 hl4.2.1)
   have HSM:=AC (Ms none none 0 0 0 0 0 0 [] w4.drew (fun h=>by simp at h) (fun h=>by simp at h) (fun j hj=>by simp at hj) (fun j hj=>by simp at hj) (by simp))
   have R2:=AC (show ∀w':World,(w'.cell? (pK wb 2)=some (.slice none 0 0)/\w'.cell? (pK wb 3)=some (.slice none 0 0))->(Instr.loadAt 32 (pq wb 2)).run Tryz.prog w'= .ok (.slice none 0 0) w' from fun w' h=>by
    have c:=h.1
    clear hl4 hJ4 hb4
    go_simp)
   have R3:=AC (show ∀w':World,(w'.cell? (pK wb 2)=some (.slice none 0 0)/\w'.cell? (pK wb 3)=some (.slice none 0 0))->(Instr.loadAt 32 (pq wb 3)).run Tryz.prog w'= .ok (.slice none 0 0) w' from fun w' h=>by
    have c:=h.2
    clear hl4 hJ4 hb4
    go_simp)
   clear hb4 hJ4 hl4 HFI
   go_upto_region 29 with fail
   refine BA ?_
   intro A hA
   have e0:A.eval (.tmp 0)= pq wb 0:=by rw [hA];rfl
   have esz:A.tmps.size=150:=by rw [hA];rfl
   have HAC:=AC hA
   clear hA
   refine wp_region_held_drew (S:=fun w'=>w'.cell? (pK wb 2)=some (.slice none 0 0)/\w'.cell? (pK wb 3)=some (.slice none 0 0)) (by kernel_rfl) (AB HL4) (fun hS=> ?_)
   refine tk 0 (some 134) rfl rfl (by kernel_rfl) (fun _ _ _=>id) (AK rfl _ rfl (pq wb 0) (by simp [AF,AE,esz,e0,AI])) hS ?_
   refine tk 1 (some 135) rfl rfl (by kernel_rfl) (fun _ _ _=>id) (AX rfl _ rfl (pK wb 0) (by simp [AF,AE,esz,e0,AI])) hS ?_
   refine tk 2 (some 136) rfl rfl (by kernel_rfl) (fun _ _ _=>id) (AO rfl _ _ _ rfl (pq wb 0) (by simp [AF,AE,esz,e0,AI]) (pq wb 2) (fun w'=>by go_simp)) hS ?_
   refine tk 3 (some 137) rfl rfl (by kernel_rfl) (fun _ _ _=>id) (AQ rfl _ _ rfl (pK wb 2) (by simp [AF,AE,esz,e0,AI]) (.slice none 0 0) (AB R2)) hS ?_
   refine tk 4 (some 138) rfl rfl (by kernel_rfl) (fun _ _ _=>id) (AK rfl _ rfl (pq wb 0) (by simp [AF,AE,esz,e0,AI])) hS ?_
   refine tk 5 (some 139) rfl rfl (by kernel_rfl) (fun _ _ _=>id) (AX rfl _ rfl (pK wb 0) (by simp [AF,AE,esz,e0,AI])) hS ?_
   refine tk 6 (some 140) rfl rfl (by kernel_rfl) (fun _ _ _=>id) (AO rfl _ _ _ rfl (pq wb 0) (by simp [AF,AE,esz,e0,AI]) (pq wb 3) (fun w'=>by go_simp)) hS ?_
   refine tk 7 (some 141) rfl rfl (by kernel_rfl) (fun _ _ _=>id) (AQ rfl _ _ rfl (pK wb 3) (by simp [AF,AE,esz,e0,AI]) (.slice none 0 0) (AB R3)) hS ?_
   refine rdy [8] (by kernel_rfl) (AllReadyH.cons rfl (fun K hK=> ?_) AllReadyH.nil)
   refine Bt rfl 28 _ _ rfl #[.slice none 0 0,.slice none 0 0] (by simp [AF,AE,esz,e0,AI]) Vu _ (fun e w' h=>⟨_,h.1⟩) (AB HSM) (some 142) rfl ?_
   rintro r w5 ⟨hr5,hh5,hb5⟩
   have hr5:r= .bool true:=by injection hr5
   subst hr5
   have hb5:Below w4.heap.size w4 w5:=⟨hb5.os,hb5.tape,hb5.output,hb5.size,hb5.block⟩
   have hJ5:=(AB HA).2.2.2.2.2 w4 w5 (AB HJ4) hb5
   have hl5:=(AB HA).2.2.1 w5 hJ5
   have HJ5:=AC hJ5
   refine hK.out _ _ ⟨hl5.1,hl5.2.1⟩ (fun hS5=> ?_)
   clear hK K
   refine tk 9 (some 12) rfl rfl (by kernel_rfl) (fun _ _ _=>id) (Ct rfl _ rfl (.bool true) (by simp [AF,AE,esz,e0,AI])) hS5 ?_
   refine wpAnyH_done (by kernel_rfl) ?_ _
   rw [AB HAC]
   simp only [Act.put,zm,zi,zj]
   clear hS5 hl5 hJ5 hb5 hh5 HAC e0 esz hS HSM R2 R3
   go_wp2
   go_ret
   exact ⟨rfl,AB HJ5⟩
def CE (w:World) (sb n:Nat):Prop:=∃vs,AG w sb 36 vs/\∀i,i<n->∀(j:Nat) (v:Value),(ET 1)[j]? =some v->vs[i*10+j]? =some v
theorem CE.cell {w:World} {sb n i j:Nat} {v:Value} (h:CE w sb n) (hi:i<n) (hv:(ET 1)[j]? =some v):w.cell? (pK sb (i*10+j))=some v:=by
 obtain ⟨vs,h1,h2⟩:=h
 exact h1.cell (h2 i hi j v hv)
theorem CE.keeps {w w':World} {sb n:Nat} (h:CE w sb n) (hk:∀(t:TypeId) (vs:List Value),t=36->AG w sb t vs->AG w' sb t vs):CE w' sb n:=by
 obtain ⟨vs,h1,h2⟩:=h
 exact ⟨vs,hk _ _ rfl h1,h2⟩
theorem CE.below {w w':World} {sb n:Nat} (h:CE w sb n) (hb:Below w.heap.size w w'):CE w' sb n:=h.keeps (fun t vs _ hv=>hv.below hb hv.lt)
theorem UA (N:Nat) (sv:List Value) (lp lf lo li lb:Int) (fv:Value) (sa:Option Addr) (sb sc n:Nat) (b:Bool) (I:Nat->World->Prop) (K:Nat->Int->World->Prop) (w:World) (hsv:sv=[.int .i64 lp,.int .i64 lf,.int .i64 lo,.int .i64 li,.int .i64 lb,fv]) (hsa:0<n->sa=some (pK sb 0)) (hs:0<n->CE w sb n) (hn:n<=400) (hsN:0<n->sb<N) (hNw:N<=w.heap.size)
  (hsm:∀W,Below w.heap.size w W->Calls Tryz.prog 9 #[.agg sv.toArray,.slice sa n sc] W fun e w'=>e= .returned (.bool b)/\Below W.heap.size W w')
  (hbt:b=true->∀W,Below w.heap.size w W->Calls Tryz.prog 10 #[.agg sv.toArray] W fun e w'=>∃pv f,e= .returned (.tuple #[pv,.int .i64 f,.bool true])/\Below W.heap.size W w'/\(f=0->∃wb,pv= pq wb 0/\I wb w'))
  (hIb:∀wb w w',I wb w->Below w.heap.size w w'->I wb w') (hKb:∀wb m w w',K wb m w->Below w.heap.size w w'->K wb m w') (hIw:∀wb w,I wb w->dn wb w)
  (hbe:∀wb w,I wb w->Calls Tryz.prog 11 #[pq wb 0,.int .i64 1,.int .i64 1] w fun e w'=>∃m,e= .returned (.int .i64 m)/\K wb m w'/\Below w.heap.size w w')
  (hst:∀wb m w,K wb m w->Calls Tryz.prog 12 #[pq wb 0,.agg (ET m).toArray] w fun e w'=>e= .returned (.bool true)/\I wb w'/\C6 N wb w w')
  (hKs:∀wb m w x v,K wb m w->wb<x->AG w x 36 (ET 1)->K wb m (w.setCell (pK x 2) v)):
  Calls Tryz.prog 5 #[.agg sv.toArray,.slice sa n sc,.int .i64 0,.int .i64 1] w fun e w'=>e= .returned (.bool true)/\Below N w w':=by
 subst hsv
 obtain ⟨W1,hW1⟩:∃W1,W1=w.alloc (Obj.cells #[.int .i64 lp,.int .i64 lf,.int .i64 lo,.int .i64 li,.int .i64 lb,fv] 26):=⟨_,rfl⟩
 have hb1:Below w.heap.size w W1:=by rw [hW1];exact (zw _ _).alloc (zx _) _
 have hr1:AG W1 w.heap.size 26 [.int .i64 lp,.int .i64 lf,.int .i64 lo,.int .i64 li,.int .i64 lb,fv]:=by rw [hW1];exact AG.new w 26 _
 obtain ⟨SB,hSB⟩:∃SB,SB=w.heap.size:=⟨_,rfl⟩
 rw [<-hSB] at hr1
 have c0:=hr1.cell (j:=0) rfl
 have c1:=hr1.cell (j:=1) rfl
 have c2:=hr1.cell (j:=2) rfl
 have c3:=hr1.cell (j:=3) rfl
 have c4:=hr1.cell (j:=4) rfl
 have c5:=hr1.cell (j:=5) rfl
 have HSM:=AC (hsm W1 hb1)
 have HW1:=AC hW1
 have HB1:=AC hb1
 have HR1:=AC hr1
 have HBT:=AC hbt
 have HA:=AC (And.intro hIb (And.intro hKb (And.intro hIw (And.intro hbe (And.intro hst hKs)))))
 have HSC:=AC (And.intro hsa hs)
 have HSN:=AC hsN
 have HNW:=AC hNw
 clear hW1 hb1 hr1 hsm hbt hIb hKb hIw hbe hst hKs hsa hs hsN hNw
 go_enter Tryz.func5,Tryz.ntmps5
 go_upto_region 1 with fail
 rw [<-AB HW1,<-hSB]
 clear HW1 hSB
 go_wp2_with fail
 refine (AB HSM).mono ?_
 rintro e w2 ⟨rfl,hb2⟩
 have HN2:=AC (show Below N w w2 from ((AB HB1).trans (hb2.mono (AB HB1).size)).mono (AB HNW))
 cases b with
 |false=>
  clear hb2
  go_wp2
  go_ret
  exact ⟨rfl,AB HN2⟩
 |true=>
  have hr2:=(AB HR1).below hb2 (AB HR1).lt
  have hB2:=(AB HB1).trans (hb2.mono (AB HB1).size)
  have d0:=hr2.cell (j:=0) rfl
  have d1:=hr2.cell (j:=1) rfl
  have d2:=hr2.cell (j:=2) rfl
  have d3:=hr2.cell (j:=3) rfl
  have d4:=hr2.cell (j:=4) rfl
  have d5:=hr2.cell (j:=5) rfl
  have HBO:=AC (AB HBT rfl w2 hB2)
  have HS2:=AC (show 0<n->CE w2 sb n from fun h0=>((AB HSC).2 h0).below hB2)
  clear hr2 hB2 hb2 HSM HBT c0 c1 c2 c3 c4 c5
  go_wp2_with fail
  refine (AB HBO).mono ?_
  rintro e w3 ⟨pv,f,rfl,hk3,hI3⟩
  have HN3:=AC (show Below N w w3 from (AB HN2).trans (hk3.mono (zh (AB HNW) (AB HN2).size)))
  by_cases hf:f=0
  ·obtain ⟨wb,rfl,hI⟩:=hI3 hf
   subst hf
   have HI:=AC hI
   have HS3:=AC (show 0<n->CE w3 sb n from fun h0=>(AB HS2 h0).below hk3)
   clear hk3 hI3 hI HBO d0 d1 d2 d3 d4 d5
   go_wp2
   go_loopw [12,13] (fun okv iv wr=>∃j:Nat,j<=n/\okv= .bool true/\iv= .int .i64 j/\Hid (I wb wr)/\Hid (0<n->CE wr sb n)/\Hid (Below N w wr)) (fun _ iv _=>n-(intOf iv).toNat)
   case atStart=>exact ⟨0,by omega,rfl,rfl,HI,HS3,HN3⟩
   case round=>
    obtain ⟨j,hj,rfl,rfl,HIJ,HSJ,HNJ⟩:=hrel
    have l4:=((AB HA).2.2.1 wb wr (AB HIJ)).2.2
    by_cases hlt:j<n
    ·have hsc:=AB HSJ (by omega)
     obtain rfl:=(AB HSC).1 (by omega)
     have s0:wr.cell? (pK sb (j*10))=some (.int .i64 1):=hsc.cell hlt (j:=0) rfl
     have s1:wr.cell? (pK sb (j*10+1))=some (.int .i64 1):=hsc.cell hlt (j:=1) rfl
     have s2:wr.cell? (pK sb (j*10+2))=some (.int .i64 1):=hsc.cell hlt (j:=2) rfl
     have s3:wr.cell? (pK sb (j*10+3))=some (.int .i64 0):=hsc.cell hlt (j:=3) rfl
     have s4:wr.cell? (pK sb (j*10+4))=some (.int .i64 0):=hsc.cell hlt (j:=4) rfl
     have s5:wr.cell? (pK sb (j*10+5))=some (.int .i64 0):=hsc.cell hlt (j:=5) rfl
     have s6:wr.cell? (pK sb (j*10+6))=some (.string ⟨#[]⟩):=hsc.cell hlt (j:=6) rfl
     have s7:wr.cell? (pK sb (j*10+7))=some (.slice none 0 0):=hsc.cell hlt (j:=7) rfl
     have s8:wr.cell? (pK sb (j*10+8))=some (.slice none 0 0):=hsc.cell hlt (j:=8) rfl
     have s9:wr.cell? (pK sb (j*10+9))=some (.slice none 0 0):=hsc.cell hlt (j:=9) rfl
     have hsl:sb<wr.heap.size:=zu _ _ s0
     obtain ⟨W5,hW5⟩:∃W5,W5=wr.alloc (Obj.cells #[.int .i64 1,.int .i64 1,.int .i64 1,.int .i64 0,.int .i64 0,.int .i64 0,.string ⟨#[]⟩,.slice none 0 0,.slice none 0 0,.slice none 0 0] 36):=⟨_,rfl⟩
     have hb5:Below wr.heap.size wr W5:=by rw [hW5];exact (zw _ _).alloc (zx _) _
     have hr5:AG W5 wr.heap.size 36 (ET 1):=by rw [hW5];exact AG.new wr 36 _
     obtain ⟨OB,hOB⟩:∃OB,OB=wr.heap.size:=⟨_,rfl⟩
     rw [<-hOB] at hr5
     have HNO:=AC (show N<=OB from by rw [hOB];exact zh (AB HNW) (AB HNJ).size)
     have HN5:=AC (show Below N w W5 from (AB HNJ).trans (hb5.mono (zh (AB HNW) (AB HNJ).size)))
     have HWO:=AC (show wb<OB from by rw [hOB];exact zu wr _ l4)
     have hI5:=(AB HA).1 wb wr W5 (AB HIJ) hb5
     have HBE:=AC ((AB HA).2.2.2.1 wb W5 hI5)
     have hsc5:=hsc.below hb5
     have x0:W5.cell? (pK OB 0)=some (.int .i64 1):=hr5.cell (j:=0) rfl
     have x1:W5.cell? (pK OB 1)=some (.int .i64 1):=hr5.cell (j:=1) rfl
     have x2:W5.cell? (pK OB 2)=some (.int .i64 1):=hr5.cell (j:=2) rfl
     have x3:W5.cell? (pK OB 3)=some (.int .i64 0):=hr5.cell (j:=3) rfl
     have x4:W5.cell? (pK OB 4)=some (.int .i64 0):=hr5.cell (j:=4) rfl
     have x5:W5.cell? (pK OB 5)=some (.int .i64 0):=hr5.cell (j:=5) rfl
     have x6:W5.cell? (pK OB 6)=some (.string ⟨#[]⟩):=hr5.cell (j:=6) rfl
     have x7:W5.cell? (pK OB 7)=some (.slice none 0 0):=hr5.cell (j:=7) rfl
     have x8:W5.cell? (pK OB 8)=some (.slice none 0 0):=hr5.cell (j:=8) rfl
     have x9:W5.cell? (pK OB 9)=some (.slice none 0 0):=hr5.cell (j:=9) rfl
     have HW5:=AC hW5
     have HR5:=AC hr5
     have HSC5:=AC hsc5
     have hj0:(0:Int)<=(j:Int):=by omega
     have hj1:(j:Int)<(n:Int):=by omega
     have hne:sb≠OB:=by omega
     clear hW5 hb5 hr5 hI5 hsc hsc5 hsl
     go_upto_region 11 with fail
     rw [<-AB HW5,<-hOB]
     clear HW5 hOB s0 s1 s2 s3 s4 s5 s6 s7 s8 s9 l4
     go_wp2_with fail
     refine (AB HBE).mono ?_
     rintro e w6 ⟨m,rfl,hK6,hb6⟩
     have hr6:=(AB HR5).below hb6 (AB HR5).lt
     have x2:w6.cell? (pK OB 2)=some (.int .i64 1):=hr6.cell (j:=2) rfl
     have f2:=hr6.frozen 2
     obtain ⟨W7,hW7⟩:∃W7,W7=w6.setCell (pK OB 2) (.int .i64 m):=⟨_,rfl⟩
     have HN7:=AC (show Below N w W7 from by rw [hW7];exact ((AB HN5).trans (hb6.mono (zh (AB HNW) (AB HN5).size))).setCell (AB HNO) _)
     have hr7:AG W7 OB 36 (ET m):=by rw [hW7];exact hr6.set 2 _
     have hK7:K wb m W7:=by rw [hW7];exact (AB HA).2.2.2.2.2 wb m w6 OB _ hK6 (AB HWO) hr6
     have HST:=AC ((AB HA).2.2.2.2.1 wb m W7 hK7)
     unfold ET at HST
     have HS7:=AC (show CE W7 sb n from by
      obtain ⟨vs,k1,k2⟩:=(AB HSC5).below hb6
      exact ⟨vs,by rw [hW7];exact k1.set_other hne 2 _,k2⟩)
     have y0:W7.cell? (pK OB 0)=some (.int .i64 1):=hr7.cell (j:=0) rfl
     have y1:W7.cell? (pK OB 1)=some (.int .i64 1):=hr7.cell (j:=1) rfl
     have y2:W7.cell? (pK OB 2)=some (.int .i64 m):=hr7.cell (j:=2) rfl
     have y3:W7.cell? (pK OB 3)=some (.int .i64 0):=hr7.cell (j:=3) rfl
     have y4:W7.cell? (pK OB 4)=some (.int .i64 0):=hr7.cell (j:=4) rfl
     have y5:W7.cell? (pK OB 5)=some (.int .i64 0):=hr7.cell (j:=5) rfl
     have y6:W7.cell? (pK OB 6)=some (.string ⟨#[]⟩):=hr7.cell (j:=6) rfl
     have y7:W7.cell? (pK OB 7)=some (.slice none 0 0):=hr7.cell (j:=7) rfl
     have y8:W7.cell? (pK OB 8)=some (.slice none 0 0):=hr7.cell (j:=8) rfl
     have y9:W7.cell? (pK OB 9)=some (.slice none 0 0):=hr7.cell (j:=9) rfl
     have HW7:=AC hW7
     clear hW7 hr7 hr6 hK6 hK7 hb6 HBE x0 x1 x3 x4 x5 x6 x7 x8 x9
     go_upto_region 17 with fail
     rw [<-AB HW7]
     clear HW7 x2 f2
     go_wp2_with fail
     refine (AB HST).mono ?_
     rintro e w8 ⟨rfl,hI8,hk8⟩
     have HI8:=AC hI8
     have HS8:=AC (show 0<n->CE w8 sb n from fun _=>(AB HS7).keeps (fun t vs ht hv=>hk8.1 _ t vs ht (.inl (AB HSN (by omega))) hv))
     have HN8:=AC (show Below N w w8 from (AB HN7).trans (hk8.2 (zh (AB HNW) (AB HN7).size)))
     clear hI8 hk8 HST y0 y1 y2 y3 y4 y5 y6 y7 y8 y9
     go_wp2
     exact ⟨⟨j+1,by omega,rfl,by simp,HI8,HS8,HN8⟩,by simp only [intOf];omega⟩
    ·go_wp2
     go_ret
     exact ⟨rfl,AB HNJ⟩
  ·have q0:(f==0)=false:=by simpa using hf
   clear hk3 hI3 HBO d0 d1 d2 d3 d4 d5 hf
   go_wp2
   go_ret
   exact ⟨rfl,AB HN3⟩
end Go.Proofs.YtdchgbmliojoiaaGreatDoor
