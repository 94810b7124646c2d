import Derived.Test.YtdchgbmliojoiaaGreatDoorG21
import Derived.Test.YtdchgbmliojoiaaGreatDoorG18
import Derived.Laws.Cover1
set_option maxRecDepth 100000
set_option maxHeartbeats 8000000
set_option linter.unusedVariables false
set_option linter.unusedSimpArgs false
namespace Go.Proofs.YtdchgbmliojoiaaGreatDoor
open Go.RowKit
theorem Xz:∀args w,(callFunc 60 args).run Tryz.prog w= .ok (.enter 60 args) w:=enters_of Tryz.func60 (by kernel_rfl) rfl
theorem Uz:∀args w,(callFunc 28 args).run Tryz.prog w= .ok (.enter 28 args) w:=enters_of Tryz.func28 (by kernel_rfl) rfl
structure BN where
 a:Option Addr
 q:Nat
 o:Nat
 c:Nat
structure Kd (w:World) (B ag i:Nat) (f:AV) (l:BN):Prop where
 path:w.cell? (pK ag (i*3))=some (.string f.path)
 dir:w.cell? (pK ag (i*3+1))=some (.bool f.dir)
 bytes:w.cell? (pK ag (i*3+2))=some (.slice l.a f.bytes.length l.c)
 loc:0<f.bytes.length->l.a=some (pK l.q l.o)/\B<=l.q/\l.q<w.heap.size/\l.q≠ag
 view:BC w l.q l.o f.bytes
 free:∀k,k<f.bytes.length->w.frozen? (pK l.q (l.o+k))=false
structure DC (w:World) (B ag n:Nat) (FL:List AV) (LS:List BN):Prop where
 len:LS.length=FL.length
 at_:∀(i:Nat) (f:AV) (l:BN),n<=i->FL[i]? =some f->LS[i]? =some l->Kd w B ag i f l
 apart:∀(i j:Nat) (f:AV) (l m:BN),FL[i]? =some f->LS[i]? =some l->LS[j]? =some m->i≠j->0<f.bytes.length->l.q≠m.q
theorem Kd.other {w w':World} {B ag i:Nat} {f:AV} {l:BN} {row:Option Nat} (h:Kd w B ag i f l) (hg:w.grownBy w' row) (h1:some ag≠row) (h2:0<f.bytes.length->some l.q≠row):Kd w' B ag i f l:=by
 have hs:=hg.size
 refine ⟨hg.cell h.path h1,hg.cell h.dir h1,hg.cell h.bytes h1,fun h0=> ?_,fun j hj=>hg.cell (h.view j hj) (h2 (by omega)),fun k hk=> ?_⟩
 ·obtain ⟨a,b,c,d⟩:=h.loc h0
  exact ⟨a,b,by omega,d⟩
 ·rw [hg.frozen_far _ (h.loc (by omega)).2.2.1 (h2 (by omega))];exact h.free k hk
theorem DC.below {w w':World} {B ag n:Nat} {FL:List AV} {LS:List BN} (h:DC w B ag n FL LS) (hb:Below w.heap.size w w'):DC w' B ag n FL LS:=
 ⟨h.len,fun i f l hi hf hl=>(h.at_ i f l hi hf hl).other (row:=none) ⟨hb.os,hb.tape,hb.output,hb.size,fun k hk _=>hb.block k hk⟩ (by simp) (fun _=>by simp),h.apart⟩
theorem DC.next {w:World} {B ag n:Nat} {FL:List AV} {LS:List BN} (h:DC w B ag n FL LS):DC w B ag (n+1) FL LS:=⟨h.len,fun i f l hi=>h.at_ i f l (by omega),h.apart⟩
theorem DC.rest {w w':World} {B ag n:Nat} {FL:List AV} {LS:List BN} (h:DC w B ag n FL LS) {f:AV} {l:BN} (hf:FL[n]? =some f) (hl:LS[n]? =some l) (h0:0<f.bytes.length) (hg:w.grownBy w' (some l.q)):DC w' B ag (n+1) FL LS:=by
 have hn:=h.at_ n f l (zx _) hf hl
 refine ⟨h.len,fun i g m hi hg' hm=> ?_,h.apart⟩
 exact (h.at_ i g m (by omega) hg' hm).other hg (by simp;exact fun e=>(hn.loc h0).2.2.2 e.symm) (fun _=>by simp;exact fun e=>h.apart n i f l m hf hl hm (by omega) h0 e.symm)
def CS (w:World) (FL:List AV) (e:Ending) (w':World):Prop:=
 ∃aa ag ac LS,e= .returned (.slice aa FL.length ac)/\(0<FL.length->aa=some (pK ag 0)/\ag<w'.heap.size)/\Below w.heap.size w w'/\DC w' w.heap.size ag 0 FL LS
def Fp (x:Ino):Bool:= !(x.parent==0)
def D5 (xs:List Ino) (n:Nat):Nat:=((xs.take n).filter Fp).length
theorem Qm {xs:List Ino} {n:Nat} {x:Ino} (h:xs[n]? =some x):D5 xs (n+1)=D5 xs n+if Fp x=true then 1 else 0:=by
 unfold D5
 rw [List.take_add_one,h,List.filter_append,zn]
 cases hx:Fp x<;>simp [hx]
theorem Nd (xs:List Ino) (n:Nat):D5 xs n<=n:=by
 unfold D5
 have h1:=List.length_filter_le Fp (xs.take n)
 have h2:=List.length_take_le n xs
 omega
def LD (FL:List AV):Nat->ByteArray
 |0=>ByteArray.empty
 |n+1=>match FL[n]? with|some f=>f.path|none=>ByteArray.empty
structure Pp (xs:List Ino) (cs:List (List Int)) (FL:List AV):Prop where
 each:∀(i:Nat) (x:Ino) (c:List Int),xs[i]? =some x->cs[i]? =some c->x.parent≠0->∃J:Nat,FL[J]? =some ⟨Ci xs x.id,x.dir,c⟩/\∀(j:Nat) (f:AV),FL[j]? =some f->(f.path.toList==(Ci xs x.id).toList)=true->j=J
 count:D5 xs xs.length=FL.length
 sorted:∀(m:Nat) (f:AV),FL[m]? =some f->Op.bytesLess f.path.toList (LD FL m).toList=false/\(f.path.toList==(LD FL m).toList)=false
theorem Hm.below {w w':World} {v:Value} {PL:List Nat} (h:Hm w v PL) (hb:Below w.heap.size w w'):Hm w' v PL:=by
 obtain ⟨a,c,hv,hp⟩:=h
 refine ⟨a,c,hv,fun i n hn=> ?_⟩
 obtain ⟨gp,b,d,ha,hl,hc⟩:=hp i n hn
 exact ⟨gp,b,d,ha,by have:=hb.size;omega,by rw [hb.cell (p:=(pK gp (i*31+22))) hl];exact hc⟩
theorem X0 {w w1:World} (wr:World) {l:BN} {c:List Int} {xa:Option Addr} {xd:Nat} (hv:BC w1 l.q l.o c) (hla:0<c.length->l.a=some (pK l.q l.o)) (hll:0<c.length->l.q<w1.heap.size)
  (hcell:∀b o,b<w1.heap.size->wr.cell? (pK b o)=w1.cell? (pK b o)) (hfa:Hn w (.slice xa c.length xd) c) (hb1:Below w.heap.size w w1) (hcl:c.length<=1000000):
  ∀(lc:Nat) (w':World),w'.heap=wr.heap->Calls Tryz.prog 28 #[.slice l.a c.length lc,.slice xa c.length xd] w' fun e w2=>e= .returned (.bool true)/\w2.heap=w'.heap/\Below w'.heap.size w' w2:=by
 intro lc w' hw'
 have hc':∀a,w'.cell? a=wr.cell? a:=fun a=>by unfold World.cell?;rw [hw']
 obtain ⟨q,o,hq,hv2⟩:∃q o,(0<c.length->xa=some (pK q o))/\BC w' q o c:=by
  rcases hfa with ⟨h0,_⟩|⟨_,q,hq,hh⟩
  ·subst h0
   exact ⟨0,0,fun h=>by simp at h,fun j hj=>by simp at hj⟩
  ·simp only [Value.slice.injEq] at hq
   refine ⟨q,0,fun _=>hq.1,fun j hj=> ?_⟩
   have hql:=hh.lt
   rw [hc',hcell _ _ (by have:=hb1.size;omega),hb1.cell (p:=(pK q (0+j))) hql,zq]
   exact hh.bytes j hj
 exact Ms l.a xa l.q l.o lc q o xd c w' hla hq (fun j hj=>by rw [hc',hcell _ _ (hll (by omega))];exact hv j hj) hv2 hcl
theorem X1 (wb base kb g cap:Nat) (kp:Option Addr) (k:RK) (cs:List (List Int)) (PL:List Nat) (oa:Option Addr) (on oc:Nat) (FL:List AV) (w:World)
  (hw0:w.cell? (pK wb 0)=some (.pointer kp)) (hw1:w.cell? (pK wb 1)=some (pq kb 0)) (hwl:wb<w.heap.size)
  (hr:D9 w base kb g cap k) (hc:Ch w k.inos cs) (ht:JJ k.inos) (hin:k.inos.length<=10000) (hla:∀x∈k.inos,x.id<=1000000) (hcs:AU cs<=1000000)
  (hf:Calls Tryz.prog 59 #[.pointer kp] w (CS w FL)) (htl:Pp k.inos cs FL) (hsz:∀f∈FL,f.bytes.length<=1000000)
  (hP:Hm w k.pv PL) (hO:k.ov= .slice oa on oc) (hpl:PL.length<=100000) (hps:PL.sum<=10000000)
  (hu:∀w',Below w.heap.size w w'->Calls Tryz.prog 61 #[.pointer kp] w' fun e w2=>e= .returned (.agg (BV PL.length PL.sum on k.inos.length (AU cs)).toArray)/\Below w'.heap.size w' w2):
  Calls Tryz.prog 30 #[pq wb 0] w fun e w'=>e= .returned (.bool true)/\Below w.heap.size w w':=by
 have hkl:=hr.1.lt
 have hgl:=(hr.2.lt g rfl).2
 have hfl:FL.length<=10000:=by have h1:=htl.count;have h2:=Nd k.inos k.inos.length;omega
 have HF:=AC hf
 have HR:=AC hr
 have HC:=AC hc
 have HT:=AC ht
 have HLA:=AC hla
 have HTL:=AC htl
 have HSZ:=AC hsz
 have HU:=AC hu
 have HP:=AC hP
 have HO:=AC hO
 clear hf hr hc ht hla htl hsz hu hP hO
 go_enter Tryz.func30,Tryz.ntmps30
 go_wp2_with fail
 refine (AB HF).mono ?_
 rintro e w1 ⟨aa,ag,ac,LS,rfl,hag,hb1,hps⟩
 have HAG:=AC hag
 have HB1:=AC hb1
 have HPS:=AC hps
 have hs1:=hb1.size
 clear HF hag hb1 hps
 go_wp2
 go_loopw [4,6] (fun n i wr=>∃j:Nat,j<=k.inos.length/\i= .int .i64 j/\n= .int .i64 (D5 k.inos j)/\Hid (Below w1.heap.size w1 wr)) (fun _ i _=>k.inos.length-(intOf i).toNat)
 case atStart=>exact ⟨0,by omega,rfl,rfl,AC (zw _ _)⟩
 case round=>
  obtain ⟨j,hj,rfl,rfl,HB⟩:=hrel
  have hsr:=(AB HB).size
  have hcell:∀b o,b<w.heap.size->wr.cell? (pK b o)=w.cell? (pK b o):=fun b o hb=>by rw [(AB HB).cell (p:=(pK b o)) (by show b<w1.heap.size;omega),(AB HB1).cell (p:=(pK b o)) hb]
  have d1:wr.cell? (pK wb 1)=some (pq kb 0):=by rw [hcell _ _ hwl];exact hw1
  have d7:wr.cell? (pK kb 7)=some (.slice (some (pK g 0)) k.inos.length cap):=by rw [hcell _ _ hkl];exact (AB HR).1.cell rfl
  have hcn:=Nd k.inos j
  by_cases hlt:j<k.inos.length
  ·obtain ⟨x,hx⟩:∃x,k.inos[j]? =some x:=⟨_,zz hlt⟩
   have hxc:∀i v,i<5->(BJ x)[i]? =some v->wr.cell? (pK g (j*5+i))=some v:=fun i v hi hv=>by rw [hcell _ _ hgl];exact (AB HR).at.cell hx hi hv
   have x0:wr.cell? (pK g (j*5))=some (.int .i64 x.id):=by have:=hxc 0 _ (by omega) rfl;rwa [Nat.add_zero] at this
   have x1:=hxc 1 _ (by omega) rfl
   have x2:=hxc 2 _ (by omega) rfl
   have x3:=hxc 3 _ (by omega) rfl
   have x4:=hxc 4 _ (by omega) rfl
   obtain ⟨c,hcj⟩:∃c,cs[j]? =some c:=⟨_,zz (by rw [(AB HC).1];exact hlt)⟩
   have hfa:=(AB HC).2 j x c hx hcj
   obtain ⟨xa,xd,hxb⟩:=hfa.len
   rw [hxb] at x4
   have hj0:(0:Int)<=(j:Int):=by omega
   have hj1:(j:Int)<(k.inos.length:Int):=by omega
   have hcs:=Qm hx
   by_cases hp:x.parent=0
   ·have HCS:=AC (show D5 k.inos (j+1)=D5 k.inos j from by rw [hcs,if_neg (show ¬Fp x=true from by simp [Fp,hp])];rfl)
    have HB2:=AC ((AB HB).alloc (by omega) (Obj.cells #[.int .i64 x.id,.int .i64 0,.string x.name,.bool x.dir,.slice xa c.length xd] 128))
    rw [hp] at x1
    generalize hxi:x.id=XI at x0 HB2
    generalize hxn:x.name=XN at x2 HB2
    generalize hxd:x.dir=XD at x3 HB2
    generalize c.length=CL at x4 HB2
    clear hcell hxc hcs hp hx hxi hxn hxd hxb hfa hcj
    go_wp2
    go_roundw
    case rel=>exact ⟨j+1,by omega,by go_num,by rw [AB HCS],HB2⟩
    case measure=>simp [intOf];omega
   ·have hp2:(x.parent==0)=false:=by simpa using hp
    have HCS:=AC (hcs.trans (by rw [if_pos (show Fp x=true from by simp [Fp,hp])]))
    obtain ⟨J,hJ,hJu⟩:=(AB HTL).each j x c hx hcj hp
    have hJl:=(zy.1 hJ).1
    obtain rfl:=(AB HAG (by omega)).1
    have hag:=(AB HAG (by omega)).2
    have hxm:=zv hx
    have HPT:=AC (fun (w':World) (h:Below w.heap.size w w')=>Sg kb g cap k.inos x.id w' ((AB HR).at.below h hkl hgl) (by omega) (AB HT) (fun _=>⟨x,hxm,rfl⟩) (AB HLA x hxm))
    obtain ⟨PT,hPT⟩:∃PT,PT=Ci k.inos x.id:=⟨_,rfl⟩
    rw [<-hPT] at hJ hJu HPT
    have HJ:=AC hJ
    have HJU:=AC hJu
    have HFA:=AC hfa
    have HB2:=AC ((AB HB).alloc (by omega) (Obj.cells #[.int .i64 x.id,.int .i64 x.parent,.string x.name,.bool x.dir,.slice xa c.length xd] 128))
    have HN2:=AC (AG.new wr 128 [.int .i64 x.id,.int .i64 x.parent,.string x.name,.bool x.dir,.slice xa c.length xd])
    obtain ⟨W2,hW2⟩:∃W2,W2=wr.alloc (Obj.cells #[.int .i64 x.id,.int .i64 x.parent,.string x.name,.bool x.dir,.slice xa c.length xd] 128):=⟨_,rfl⟩
    rw [<-hW2] at HB2
    have HN3:=AC (show AG W2 wr.heap.size 128 [.int .i64 x.id,.int .i64 x.parent,.string x.name,.bool x.dir,.slice xa c.length xd] from by rw [hW2];exact AB HN2)
    have HXB:=AC hxb
    have HCJ:=AC hcj
    have HDIR:∃D,D=x.dir:=⟨_,rfl⟩
    obtain ⟨XD,hXD⟩:=HDIR
    rw [<-hXD] at x3 HJ HN3 hW2
    generalize x.id=XI at x0 HN3 hW2 HPT
    generalize x.parent=XP at x1 HN3 hW2 hp2
    generalize x.name=XN at x2 HN3 hW2
    have HW2:=AC hW2
    have hcell2:∀b o,b<w1.heap.size->W2.cell? (pK b o)=w1.cell? (pK b o):=fun b o hb=>(AB HB2).cell (p:=(pK b o)) hb
    have z0:=(AB HN3).cell (j:=0) rfl
    have z1:=(AB HN3).cell (j:=1) rfl
    have z3:=(AB HN3).cell (j:=3) rfl
    have z4:=(AB HN3).cell (j:=4) rfl
    obtain ⟨XW,hXW⟩:∃XW,XW=wr.heap.size:=⟨_,rfl⟩
    have HX7:=AC (show ∀A:Act,A.eval (.tmp 7)= pq wr.heap.size 0->A.eval (.tmp 7)= pq XW 0 from fun A h=>by rw [hXW];exact h)
    have HZL:=AC (show ∀w',Below W2.heap.size W2 w'->∀w'',Below w'.heap.size w' w''->(Instr.loadAt 32 (pq XW 4)).run Tryz.prog w''= .ok (.slice xa c.length xd) w'' from fun w' h w'' h2=>by
     rw [hXW]
     have hl:=(AB HN3).lt
     have cc:w''.cell? (pK wr.heap.size 4)=some (.slice xa c.length xd):=by rw [h2.cell (p:=(pK wr.heap.size 4)) (by have:=h.size;show wr.heap.size<w'.heap.size;omega),h.cell (p:=(pK wr.heap.size 4)) hl];exact z4
     go_simp)
    clear hXW
    have HZ:=AC (show ∀w',Below W2.heap.size W2 w'->w'.cell? (pK wr.heap.size 3)=some (.bool XD)/\w'.cell? (pK wr.heap.size 4)=some (.slice xa c.length xd) from fun w' h=>by
     have hl:=(AB HN3).lt
     exact ⟨by rw [h.cell (p:=(pK wr.heap.size 3)) hl];exact z3,by rw [h.cell (p:=(pK wr.heap.size 4)) hl];exact z4⟩)
    have y1:W2.cell? (pK wb 1)=some (pq kb 0):=by rw [hcell2 _ _ (by omega),(AB HB1).cell (p:=(pK wb 1)) hwl];exact hw1
    have hbw:Below w.heap.size w W2.drew:=(AB HB1).trans (show Below w.heap.size w1 W2.drew from ⟨(AB HB2).os,(AB HB2).tape,(AB HB2).output,(AB HB2).size,fun q hq=>(AB HB2).block q (by omega)⟩)
    have HPC:=AC (AB HPT W2.drew hbw)
    clear hcell hxc hcs hp hx hxm hxb hfa hcj hJ hJu hPT hW2 HN2 HPT hcell2 hbw hXD
    go_upto_region 8 with fail
    rw [<-AB HW2]
    clear x0 x1 x2 x3 x4 d1 d7
    go_upto_region 10 with fail
    have L1:=AC (show ∀w',Below W2.heap.size W2 w'->(Instr.loadAt 53 (pq wb 1)).run Tryz.prog w'= .ok (pq kb 0) w' from fun w' h=>by
     have hwl2:wb<W2.heap.size:=by have:=(AB HB2).size;omega
     have c:w'.cell? (pK wb 1)=some (pq kb 0):=by rw [h.cell (p:=(pK wb 1)) hwl2];exact y1
     go_simp)
    have L2:=AC (show ∀w',Below W2.heap.size W2 w'->(Instr.loadAt 3 (pq wr.heap.size 0)).run Tryz.prog w'= .ok (.int .i64 XI) w' from fun w' h=>by
     have c:w'.cell? (pK wr.heap.size 0)=some (.int .i64 XI):=by rw [h.cell (p:=(pK wr.heap.size 0)) (AB HN3).lt];exact z0
     go_simp)
    have S0:Below W2.heap.size W2 W2.drew:=⟨rfl,rfl,rfl,zx _,fun _ _=>rfl⟩
    refine BA ?_
    intro A hA
    have e0:A.eval (.tmp 0)= pq wb 0:=by rw [hA];rfl
    have e7:A.eval (.tmp 7)= pq wr.heap.size 0:=by rw [hA];rfl
    have esz:A.tmps.size=180:=by rw [hA];rfl
    have HA:=AC hA
    clear hA
    refine wp_region_held_drew (S:=fun w'=>Below W2.heap.size W2 w') (by kernel_rfl) S0 (fun hS=> ?_)
    refine tk 0 (some 48) rfl rfl (by kernel_rfl) (fun _ _ _=>id) (AK rfl _ rfl (pq wb 0) (by simp [AF,AE,esz,e0,e7])) hS ?_
    refine tk 1 (some 49) rfl rfl (by kernel_rfl) (fun _ _ _=>id) (AX rfl _ rfl (pK wb 0) (by simp [AF,AE,esz,e0,e7])) hS ?_
    refine tk 2 (some 50) rfl rfl (by kernel_rfl) (fun _ _ _=>id) (AO rfl _ _ _ rfl (pq wb 0) (by simp [AF,AE,esz,e0,e7]) (pq wb 1) (fun w'=>by go_simp)) hS ?_
    refine tk 3 (some 51) rfl rfl (by kernel_rfl) (fun _ _ _=>id) (AQ rfl _ _ rfl (pK wb 1) (by simp [AF,AE,esz,e0,e7]) (pq kb 0) (AB L1)) hS ?_
    refine tk 4 (some 52) rfl rfl (by kernel_rfl) (fun _ _ _=>id) (AO rfl _ _ _ rfl (pq wr.heap.size 0) (by simp [AF,AE,esz,e0,e7]) (pq wr.heap.size 0) (fun w'=>by go_simp)) hS ?_
    refine tk 5 (some 53) rfl rfl (by kernel_rfl) (fun _ _ _=>id) (AQ rfl _ _ rfl (pK wr.heap.size 0) (by simp [AF,AE,esz,e0,e7]) (.int .i64 XI) (AB L2)) hS ?_
    refine rdy [6] (by kernel_rfl) (AllReadyH.cons rfl (fun K hK=> ?_) AllReadyH.nil)
    refine Hx rfl 60 51 53 _ _ rfl (pq kb 0) (.int .i64 XI) (by simp [AF,AE,esz,e0,e7]) (by simp [AF,AE,esz,e0,e7]) Xz _ (.string PT) (fun e w' h=>h.1) (AB HPC) (some 54) rfl ?_
    rintro w3 ⟨_,rfl⟩
    refine hK.out _ _ S0 (fun _=> ?_)
    clear hK K
    refine tk 7 (some 8) rfl rfl (by kernel_rfl) (fun _ _ _=>id) (Bj rfl (v:= .string PT) (fun w' _=>by simp only [execOp];simp [AF,AE,esz])) S0 ?_
    refine wpAnyH_done (by kernel_rfl) ?_ _
    rw [AB HA]
    simp only [Act.put,zm,zi,zj]
    clear HA e0 e7 esz L1 L2 S0 hS
    clear z0 z1 z3 z4 y1 HPC HB
    go_wp2
    go_loopw [9,10] (fun th jj wq=>∃m:Nat,m<=FL.length/\jj= .int .i64 m/\th= .bool (decide (J<m))/\Hid (Below W2.heap.size W2 wq)) (fun _ jj _=>FL.length-(intOf jj).toNat)
    case atStart=>exact ⟨0,by omega,rfl,by simp,AC ⟨rfl,rfl,rfl,zx _,fun _ _=>rfl⟩⟩
    case round=>
     obtain ⟨m,hm,rfl,rfl,HBQ⟩:=hrel
     have hsq:=(AB HBQ).size
     have hsw:=(AB HB2).size
     by_cases hml:m<FL.length
     ·obtain ⟨f,hf⟩:∃f,FL[m]? =some f:=⟨_,zz hml⟩
      obtain ⟨l,hl⟩:∃l,LS[m]? =some l:=⟨_,zz (by rw [(AB HPS).len];exact hml)⟩
      have hfc:=(AB HPS).at_ m f l (Nat.zero_le _) hf hl
      have hcellq:∀b o,b<w1.heap.size->wr.cell? (pK b o)=w1.cell? (pK b o):=fun b o hb=>by rw [(AB HBQ).cell (p:=(pK b o)) (by show b<W2.heap.size;omega),(AB HB2).cell (p:=(pK b o)) hb]
      have p0:wr.cell? (pK ag (m*3))=some (.string f.path):=by rw [hcellq _ _ hag];exact hfc.path
      have p1:wr.cell? (pK ag (m*3+1))=some (.bool f.dir):=by rw [hcellq _ _ hag];exact hfc.dir
      have p2:wr.cell? (pK ag (m*3+2))=some (.slice l.a f.bytes.length l.c):=by rw [hcellq _ _ hag];exact hfc.bytes
      have hm0:(0:Int)<=(m:Int):=by omega
      have hm1:(m:Int)<(FL.length:Int):=by omega
      by_cases hmJ:m=J
      ·subst hmJ
       rw [AB HJ] at hf
       obtain rfl:=zr hf
       have heq:(PT.toList==PT.toList)=true:=by simp
       have hcl:c.length<=1000000:=by have h1:=JG (AB HCJ);omega
       have HSM:=AC (X0 wr (l:=l) (c:=c) (xa:=xa) (xd:=xd) hfc.view (fun h0=>(hfc.loc h0).1) (fun h0=>(hfc.loc h0).2.2.1) (fun b o hb=>hcellq b o hb) (by have h:=AB HFA;rw [AB HXB] at h;exact h) (AB HB1) hcl)
       have HD:=AC (show decide (m<m+1)=true from decide_eq_true (by omega))
       obtain ⟨z3',z4'⟩:=AB HZ wr (AB HBQ)
       simp only at p0 p1 p2
       clear hcellq hfc hl hf
       go_upto_region 16 with fail
       have S0:Below wr.heap.size wr wr.drew:=⟨rfl,rfl,rfl,zx _,fun _ _=>rfl⟩
       have M1:=AC (show ∀w',Below wr.heap.size wr w'->(Instr.loadAt 32 (pq ag (m*3+2))).run Tryz.prog w'= .ok (.slice l.a c.length l.c) w' from fun w' h=>by
        have hagw:ag<wr.heap.size:=by omega
        have cc:w'.cell? (pK ag (m*3+2))=some (.slice l.a c.length l.c):=by rw [h.cell (p:=(pK ag (m*3+2))) hagw];exact p2
        go_simp)
       have M2:=AC (AB HZL wr (AB HBQ))
       refine BA ?_
       intro A hA
       have e3:A.eval (.tmp 3)= .slice (some (pK ag 0)) FL.length ac:=by rw [hA];rfl
       have e10:A.eval (.tmp 10)= .int .i64 m:=by rw [hA];rfl
       have e7:=AB HX7 A (by rw [hA];rfl)
       have esz:A.tmps.size=180:=by rw [hA];rfl
       have HA:=AC hA
       clear hA
       refine wp_region_held_drew (S:=fun w'=>Below wr.heap.size wr w') (by kernel_rfl) S0 (fun hS=> ?_)
       refine tk 0 (some 68) rfl rfl (by kernel_rfl) (fun _ _ _=>id) (AK rfl _ rfl (.slice (some (pK ag 0)) FL.length ac) (by simp [AF,AE,esz,e3,e7,e10])) hS ?_
       refine tk 1 (some 69) rfl rfl (by kernel_rfl) (fun _ _ _=>id) (AK rfl _ rfl (.int .i64 m) (by simp [AF,AE,esz,e3,e7,e10])) hS ?_
       refine tk 2 (some 70) rfl rfl (by kernel_rfl) (fun _ _ _=>id) (BM rfl _ _ _ rfl (.slice (some (pK ag 0)) FL.length ac) (.int .i64 m) (by simp [AF,AE,esz,e3,e7,e10]) (by simp [AF,AE,esz,e3,e7,e10]) (pq ag (m*3)) (fun w'=>by go_simp)) hS ?_
       refine tk 3 (some 71) rfl rfl (by kernel_rfl) (fun _ _ _=>id) (AO rfl _ _ _ rfl (pq ag (m*3)) (by simp [AF,AE,esz,e3,e7,e10]) (pq ag (m*3+2)) (fun w'=>by go_simp)) hS ?_
       refine tk 4 (some 72) rfl rfl (by kernel_rfl) (fun _ _ _=>id) (AQ rfl _ _ rfl (pK ag (m*3+2)) (by simp [AF,AE,esz,e3,e7,e10]) (.slice l.a c.length l.c) (AB M1)) hS ?_
       refine tk 5 (some 73) rfl rfl (by kernel_rfl) (fun _ _ _=>id) (AO rfl _ _ _ rfl (pq XW 0) (by simp [AF,AE,esz,e3,e7,e10]) (pq XW 4) (fun w'=>by go_simp)) hS ?_
       refine tk 6 (some 74) rfl rfl (by kernel_rfl) (fun _ _ _=>id) (AQ rfl _ _ rfl (pK XW 4) (by simp [AF,AE,esz,e3,e7,e10]) (.slice xa c.length xd) (AB M2)) hS ?_
       refine rdy [7] (by kernel_rfl) (AllReadyH.cons rfl (fun K hK=> ?_) AllReadyH.nil)
       refine Hx rfl 28 72 74 _ _ rfl (.slice l.a c.length l.c) (.slice xa c.length xd) (by simp [AF,AE,esz,e3,e7,e10]) (by simp [AF,AE,esz,e3,e7,e10]) Uz _ (.bool true) (fun e w' h=>h.1) (AB HSM l.c wr.drew rfl) (some 75) rfl ?_
       rintro w4 ⟨_,hh4,hb4⟩
       have S4:Below wr.heap.size wr w4:=S0.trans hb4
       refine hK.out _ _ S4 (fun _=> ?_)
       clear hK K
       refine tk 8 (some 11) rfl rfl (by kernel_rfl) (fun _ _ _=>id) (Bj rfl (v:= .bool true) (fun w' _=>by simp only [execOp];simp [AF,AE,esz])) S4 ?_
       refine wpAnyH_done (by kernel_rfl) ?_ _
       rw [AB HA]
       simp only [Act.put,zm,zi,zj]
       have HH4:=AC hh4
       have HS4:=AC S4
       clear hh4 hb4 S4 HA e3 e7 e10 esz M1 M2 S0 hS
       have hce:∀a,w4.cell? a=wr.cell? a:=fun a=>by unfold World.cell?;rw [AB HH4];rfl
       have q1:w4.cell? (pK ag (m*3+1))=some (.bool XD):=by rw [hce];exact p1
       have q3:=z3'
       rw [<-hce] at q3
       have HBQ4:=AC (show Below W2.heap.size W2 w4 from (AB HBQ).trans ((AB HS4).mono hsq))
       clear hce p0 p1 p2 z3' z4'
       go_wp2
       go_quiet (fail)
       go_wp2
       go_roundw
       case rel=>exact ⟨m+1,by omega,by go_num,by rw [AB HD],AC ⟨(AB HBQ4).os,(AB HBQ4).tape,(AB HBQ4).output,(AB HBQ4).size,(AB HBQ4).block⟩⟩
       case measure=>simp [intOf];omega
      ·have hne:(f.path.toList==PT.toList)=false:=by
        cases h:(f.path.toList==PT.toList) with
        |false=>rfl
        |true=>exact absurd (AB HJU m f hf h) hmJ
       have HD:=AC (show decide (J<m)=decide (J<m+1) from decide_eq_decide.2 (by omega))
       generalize f.path=FP at p0 hne
       clear hcellq hfc hf hl hmJ p1 p2
       go_wp2
       go_roundw
       case rel=>exact ⟨m+1,by omega,by go_num,by rw [AB HD],HBQ⟩
       case measure=>simp [intOf];omega
     ·have hme:m=FL.length:=by omega
      subst hme
      have hdt:decide (J<FL.length)=true:=decide_eq_true hJl
      rw [hdt]
      have HBN:=AC (show Below w1.heap.size w1 wr from (AB HB2).trans ((AB HBQ).mono hsw))
      clear hdt
      go_wp2
      go_roundw
      case rel=>exact ⟨j+1,by omega,by go_num,by rw [AB HCS];go_num,HBN⟩
      case measure=>simp [intOf];omega
  ·have hje:j=k.inos.length:=by omega
   subst hje
   rw [(AB HTL).count]
   have HFC:=AC ((AB HPS).below (AB HB))
   have HBW:=AC (show Below w.heap.size w wr from (AB HB1).trans ((AB HB).mono hs1))
   have HAW:=AC (show 0<FL.length->ag<wr.heap.size from fun h=>by have:=(AB HAG h).2;omega)
   clear hcell hcn HB
   go_wp2
   clear d1 d7 hlt
   go_loopw [5,12] (fun la jj wq=>∃m:Nat,m<=FL.length/\jj= .int .i64 m/\la= .string (LD FL m)/\Hid (DC wq w.heap.size ag m FL LS)/\Hid (Below w.heap.size w wq)/\Hid (0<FL.length->ag<wq.heap.size)) (fun _ jj _=>FL.length-(intOf jj).toNat)
   case atStart=>exact ⟨0,by omega,rfl,rfl,HFC,HBW,HAW⟩
   case round=>
    obtain ⟨m,hm,rfl,rfl,HFC,HBW,HAW⟩:=hrel
    have hsw:=(AB HBW).size
    by_cases hml:m<FL.length
    ·obtain ⟨f,hf⟩:∃f,FL[m]? =some f:=⟨_,zz hml⟩
     obtain ⟨l,hl⟩:∃l,LS[m]? =some l:=⟨_,zz (by rw [(AB HPS).len];exact hml)⟩
     have hfc:=(AB HFC).at_ m f l (zx _) hf hl
     have hag:=AB HAW (by omega)
     obtain rfl:=(AB HAG (by omega)).1
     have p0:=hfc.path
     have p2:=hfc.bytes
     have hm0:(0:Int)<=(m:Int):=by omega
     have hm1:(m:Int)<(FL.length:Int):=by omega
     obtain ⟨so1,so2⟩:=(AB HTL).sorted m f hf
     have HLA:=AC (show LD FL (m+1)=f.path from by show (match FL[m]? with|some f=>f.path|none=>ByteArray.empty)=_;rw [hf])
     have HFC0:=AC hfc
     obtain ⟨FP,hFP⟩:∃FP,FP=f.path:=⟨_,rfl⟩
     rw [<-hFP] at p0 so1 so2 HLA
     generalize LD FL m=LP at so1 so2 ⊢
     obtain ⟨BL,hBL⟩:∃BL,BL=f.bytes.length:=⟨_,rfl⟩
     rw [<-hBL] at p2
     have HBL:=AC hBL
     have HHL:=AC (And.intro hf hl)
     obtain ⟨ρ,hρ1,hρ0⟩:∃ρ:Option Nat,(0<BL->ρ=some l.q)/\(¬0<BL->ρ=none):=by
      by_cases h0:0<BL
      ·exact ⟨some l.q,fun _=>rfl,fun h=>absurd h0 h⟩
      ·exact ⟨none,fun h=>absurd h h0,fun _=>rfl⟩
     have HRO:=AC (And.intro hρ1 hρ0)
     have HLOC:=AC (show 0<BL->l.a=some (pK l.q l.o)/\w.heap.size<=l.q/\l.q<wr.heap.size/\l.q≠ag from fun h=>hfc.loc (by rw [<-hBL];exact h))
     have HV0:=AC (show ∀b,b<BL->(∃x:Int,wr.cell? (pK l.q (l.o+b))=some (.int .u8 x))/\wr.frozen? (pK l.q (l.o+b))=false from fun b hb=>⟨⟨_,hfc.view b (by rw [<-hBL];exact hb)⟩,hfc.free b (by rw [<-hBL];exact hb)⟩)
     have hbl:BL<=1000000:=by rw [hBL];exact AB HSZ f (zv hf)
     clear hfc hf hl hFP hBL hρ1 hρ0
     go_wp2
     obtain ⟨wr',hwr'⟩:∃v:World,v=wr:=⟨_,rfl⟩
     rw [<-hwr'] at HFC HBW hsw hag HLOC HV0 p2 ⊢
     have HWR:=AC hwr'
     clear hwr'
     go_loopw [13] (fun i wq=>∃b:Nat,b<=BL/\i= .int .i64 b/\Hid (∀b,b<BL->(∃x:Int,wq.cell? (pK l.q (l.o+b))=some (.int .u8 x))/\wq.frozen? (pK l.q (l.o+b))=false)/\Hid (wr'.grownBy wq ρ)/\Hid (wq.cell? (pK ag (m*3+2))=some (.slice l.a BL l.c))) (fun i _=>BL-(intOf i).toNat)
     case atStart=>exact ⟨0,by omega,rfl,HV0,AC (zk _ _),AC p2⟩
     case round=>
      obtain ⟨b,hb,rfl,HV,HG,HC⟩:=hrel
      have x2:=AB HC
      by_cases hbl2:b<BL
      ·obtain ⟨hla,hBq,hql,hqa⟩:=AB HLOC (by omega)
       rw [hla] at x2
       obtain ⟨⟨X,v0⟩,v1⟩:=AB HV b hbl2
       have hb0:(0:Int)<=(b:Int):=by omega
       have hb1:(b:Int)<(BL:Int):=by omega
       have HN:=AC (fun Y:Int=>show (∀c,c<BL->(∃x:Int,(wr.setCell (pK l.q (l.o+b)) (.int .u8 Y)).drew.cell? (pK l.q (l.o+c))=some (.int .u8 x))/\(wr.setCell (pK l.q (l.o+b)) (.int .u8 Y)).drew.frozen? (pK l.q (l.o+c))=false)/\wr'.grownBy (wr.setCell (pK l.q (l.o+b)) (.int .u8 Y)).drew ρ/\(wr.setCell (pK l.q (l.o+b)) (.int .u8 Y)).drew.cell? (pK ag (m*3+2))=some (.slice l.a BL l.c) from by
        refine ⟨fun c hc=> ?_,?_,?_⟩
        ·obtain ⟨⟨x,u0⟩,u1⟩:=AB HV c hc
         refine ⟨?_,(World.frozen?_setCell wr _ _ _).trans u1⟩
         by_cases e:c=b
         ·subst e
          exact ⟨Y,z8 wr _ _ u0⟩
         ·exact ⟨x,(z7 wr _ _ _ (by simp<;>omega)).trans u0⟩
        ·have hg:=AB HG
         rw [(AB HRO).1 (by omega)] at hg ⊢
         have h:=AS hg (l.o+b) (.int .u8 Y)
         exact ⟨h.os,h.tape,h.output,h.size,h.block⟩
        ·rw [hla]
         exact (World.cell?_setCell_far wr _ _ _ (by simpa using hqa)).trans x2)
       go_wp2
       go_region
       clear x2 v0 v1
       go_wp2
       go_roundw
       case rel=>exact ⟨b+1,by omega,by go_num,AC (AB HN _).1,AC (AB HN _).2.1,AC (AB HN _).2.2⟩
       case measure=>simp [intOf];omega
      ·have HNX:=AC (show DC wr w.heap.size ag (m+1) FL LS/\Below w.heap.size w wr from by
        obtain ⟨hf,hl⟩:=AB HHL
        by_cases h0:0<BL
        ·have hg:=AB HG
         rw [(AB HRO).1 h0] at hg
         have hBq:=(AB HLOC h0).2.1
         exact ⟨(AB HFC).rest hf hl (by rw [<-AB HBL];exact h0) hg,(AB HBW).trans ⟨hg.os,hg.tape,hg.output,hg.size,fun k hk=>hg.block k (by omega) (by simp;omega)⟩⟩
        ·have hg:=AB HG
         rw [(AB HRO).2 h0] at hg
         have hbb:Below wr'.heap.size wr' wr:=⟨hg.os,hg.tape,hg.output,hg.size,fun k hk=>hg.block k hk (by simp)⟩
         exact ⟨((AB HFC).below hbb).next,(AB HBW).trans (hbb.mono hsw)⟩)
       have HAN:=AC (show 0<FL.length->ag<wr.heap.size from fun _=>by have:=(AB HG).size;omega)
       go_wp2
       go_roundw
       case rel=>exact ⟨m+1,by omega,by go_num,by rw [AB HLA],AC (AB HNX).1,AC (AB HNX).2,HAN⟩
       case measure=>simp [intOf];omega
    ·have u1:wr.cell? (pK wb 0)=some (.pointer kp):=by rw [(AB HBW).cell (p:=(pK wb 0)) hwl];exact hw0
     have HUC:=AC (AB HU wr (AB HBW))
     clear HU HFC HAW
     go_wp2_with fail
     refine (AB HUC).mono ?_
     rintro e w5 ⟨rfl,hb5⟩
     have hb5':Below w.heap.size w w5:=(AB HBW).trans (hb5.mono hsw)
     have HB5:=AC hb5'
     have hs5:=hb5'.size
     clear hb5 hb5' u1 HUC HBW
     unfold BV
     obtain ⟨W6,hW6⟩:∃W6,W6=w5.alloc (Obj.cells #[.int .i64 PL.length,.int .i64 PL.sum,.int .i64 on,.int .i64 k.inos.length,.int .i64 (AU cs)] 23):=⟨_,rfl⟩
     have hb6:Below w.heap.size w W6:=by rw [hW6];exact (AB HB5).alloc hs5 _
     have hn6:AG W6 w5.heap.size 23 [.int .i64 PL.length,.int .i64 PL.sum,.int .i64 on,.int .i64 k.inos.length,.int .i64 (AU cs)]:=by rw [hW6];exact AG.new w5 23 _
     have v1:W6.cell? (pK wb 1)=some (pq kb 0):=by rw [hb6.cell (p:=(pK wb 1)) hwl];exact hw1
     have HRU:=AC (Ie base kb g cap k PL (cs.map List.length) oa on oc W6 ((AB HR).below hb6) ((AB HP).below hb6) (AB HO) (AB HC).lens (by omega) hpl hps (by have:AU cs=(cs.map List.length).sum:=rfl;omega))
     have HN6:=AC hn6
     have HB6:=AC hb6
     have HW6:=AC hW6
     clear hW6 hb6 hn6
     go_upto_region 33 with fail
     rw [<-AB HW6]
     go_wp2_with fail
     refine (AB HRU).mono ?_
     rintro e w7 ⟨rfl,hb7⟩
     have hs6:=(AB HN6).lt
     have hn7:=(AB HN6).below hb7 hs6
     have HB7:=AC ((AB HB6).trans (hb7.mono (AB HB6).size))
     have HU0:=AC (show (List.map List.length cs).sum=AU cs from rfl)
     rw [AB HU0]
     unfold BV
     obtain ⟨W8,hW8⟩:∃W8,W8=w7.alloc (Obj.cells #[.int .i64 PL.length,.int .i64 PL.sum,.int .i64 on,.int .i64 k.inos.length,.int .i64 (AU cs)] 70):=⟨_,rfl⟩
     have hn8:AG W8 w7.heap.size 70 [.int .i64 PL.length,.int .i64 PL.sum,.int .i64 on,.int .i64 k.inos.length,.int .i64 (AU cs)]:=by rw [hW8];exact AG.new w7 70 _
     have hn9:AG W8 w5.heap.size 23 [.int .i64 PL.length,.int .i64 PL.sum,.int .i64 on,.int .i64 k.inos.length,.int .i64 (AU cs)]:=by rw [hW8];exact hn7.alloc _
     have HB8:=AC (show Below w.heap.size w W8 from by rw [hW8];exact (AB HB7).alloc (AB HB7).size _)
     have s0:=hn8.cell (j:=0) rfl
     have s1:=hn8.cell (j:=1) rfl
     have s2:=hn8.cell (j:=2) rfl
     have s3:=hn8.cell (j:=3) rfl
     have s4:=hn8.cell (j:=4) rfl
     have t0:=hn9.cell (j:=0) rfl
     have t1:=hn9.cell (j:=1) rfl
     have t2:=hn9.cell (j:=2) rfl
     have t3:=hn9.cell (j:=3) rfl
     have t4:=hn9.cell (j:=4) rfl
     have HW8:=AC hW8
     generalize PL.sum=PSUM at*
     generalize AU cs=USUM at*
     clear hb7 hn7 hn8 hn9 hW8 v1
     go_upto_region 34 with fail
     rw [<-AB HW8]
     go_wp2
     go_ret
     exact ⟨rfl,AB HB8⟩
end Go.Proofs.YtdchgbmliojoiaaGreatDoor
