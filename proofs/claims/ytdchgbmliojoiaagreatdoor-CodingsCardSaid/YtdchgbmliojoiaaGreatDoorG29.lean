import Derived.Test.YtdchgbmliojoiaaGreatDoorG28
import Derived.Test.YtdchgbmliojoiaaGreatDoorG27
set_option maxRecDepth 100000
set_option maxHeartbeats 2000000
set_option linter.unusedVariables false
set_option linter.unusedSimpArgs false
namespace Go.Proofs.YtdchgbmliojoiaaGreatDoor
section
open Go Go.RowKit Go.Maps
def G8 (p:PK) (f:AV) (B tb ab am:Nat) (w:World) (e:Ending) (w':World):Prop:=
 Below B w w'/\((p.put f).1≠0/\e=Br (p.put f).1\/(p.put f).1=0/\e= .returned .nilIface/\∃NB MB V,BY w' B tb ab am (p.put f).2 NB MB V)
theorem Xy:∀args w,(callFunc 69 args).run Tryz.prog w= .ok (.enter 69 args) w:=enters_of Tryz.func69 (by kernel_rfl) rfl
theorem Uy:∀args w,(callFunc 68 args).run Tryz.prog w= .ok (.enter 68 args) w:=enters_of Tryz.func68 (by kernel_rfl) rfl
theorem S6 {P:Program} {ops:Array Oper} {o:Oper} {a:Act} {w:World} {K:Act->World->Prop} {Q:Exit->Act->World->Prop} {E:Prop} (hgd:o.guard=none) (f n1 n2:Nat) (t1 t2:TypeId)
  (ho:o.op= .call {callee:= .value (.func f),args:=#[.tmp n1,.tmp n2],argTypes:=#[t1,t2]}) (v1 v2:Value) (h1:a.eval (.tmp n1)=v1) (h2:a.eval (.tmp n2)=v2)
  (he:∀args w,(callFunc f args).run P w= .ok (.enter f args) w) (post:Ending->World->Prop) (hp:∀e w',post e w'->∃r,e= .returned r) (hc:Calls P f #[v1,v2] w post) (d:Option Tmp) (hd:o.dst=d)
  (h:∀r w',post (.returned r) w'->K (a.put d r) w'):
  if Region.wanted o (yielded ops a.tmps)=true then Oper.wp P o a w K Q else E:=by
 have hw:Region.wanted o (yielded ops a.tmps)=true:=by simp [Region.wanted,hgd]
 have h1':a.tmps[n1]?.getD undef=v1:=by rw [<-h1];simp [go_sem]
 have h2':a.tmps[n2]?.getD undef=v2:=by rw [<-h2];simp [go_sem]
 rw [if_pos hw]
 subst hd
 unfold Oper.wp
 simp [execOp,ho,resolve,invoke,h1',h2',Result.andThen,go_sem,he]
 refine hc.mono ?_
 intro e w' hpe
 obtain ⟨r,rfl⟩:=hp e w' hpe
 have:=h r w' hpe
 simpa [go_sem] using this
theorem S7 {P:Program} {ops:Array Oper} {o:Oper} {a:Act} {w:World} {K:Act->World->Prop} {Q:Exit->Act->World->Prop} {E:Prop} (hgd:o.guard=none) (f n1 n2 n4:Nat) (v3:Value) (ts:Array TypeId)
  (ho:o.op= .call {callee:= .value (.func f),args:=#[.tmp n1,.tmp n2,.const v3,.tmp n4],argTypes:=ts}) (v1 v2 v4:Value) (h1:a.eval (.tmp n1)=v1) (h2:a.eval (.tmp n2)=v2) (h4:a.eval (.tmp n4)=v4)
  (he:∀args w,(callFunc f args).run P w= .ok (.enter f args) w) (post:Ending->World->Prop) (hp:∀e w',post e w'->∃r,e= .returned r) (hc:Calls P f #[v1,v2,v3,v4] w post) (d:Option Tmp) (hd:o.dst=d)
  (h:∀r w',post (.returned r) w'->K (a.put d r) w'):
  if Region.wanted o (yielded ops a.tmps)=true then Oper.wp P o a w K Q else E:=by
 have hw:Region.wanted o (yielded ops a.tmps)=true:=by simp [Region.wanted,hgd]
 have h1':a.tmps[n1]?.getD undef=v1:=by rw [<-h1];simp [go_sem]
 have h2':a.tmps[n2]?.getD undef=v2:=by rw [<-h2];simp [go_sem]
 have h4':a.tmps[n4]?.getD undef=v4:=by rw [<-h4];simp [go_sem]
 rw [if_pos hw]
 subst hd
 unfold Oper.wp
 simp [execOp,ho,resolve,invoke,h1',h2',h4',Result.andThen,go_sem,he]
 refine hc.mono ?_
 intro e w' hpe
 obtain ⟨r,rfl⟩:=hp e w' hpe
 have:=h r w' hpe
 simpa [go_sem] using this
theorem Ql (p:PK) (B tb ab am q o c:Nat) (a:Option Addr) (NB MB:List Nat) (V:List Value) (f:AV) (mm:Int) (w:World) (hr:BY w B tb ab am p NB MB V) (hi:Bo p) (hlen:p.xs.length<=900000) (hu:AU p.cs<=1000000) (hlb:0<=p.lb/\p.lb<=1000000) (hli:(p.xs.length:Int)<=p.li/\p.li<=1000000) (hul:(AU p.cs:Int)<=p.lb) (hs:f.path.size<=maxLen) (hL:f.bytes.length<=1000000)
  (ha:0<f.bytes.length->a=some (pK q o)/\q<B) (hv:BC w q o f.bytes) (hB:B<=w.heap.size) (hm:w.cell? (pK 3 0)=some (.int .i64 mm)) (hml:3<B):
  Calls Tryz.prog 33 #[pq tb 0,.agg #[.string f.path,.bool f.dir,.slice a f.bytes.length c]] w (G8 p f B tb ab am w):=by
 obtain ⟨W0,hW0⟩:∃W0,W0=w.alloc (Obj.cells #[.string f.path,.bool f.dir,.slice a f.bytes.length c] 46):=⟨_,rfl⟩
 have hb0:Below w.heap.size w W0:=by rw [hW0];exact (zw _ _).alloc (zx _) _
 have hp0:AG W0 w.heap.size 46 [.string f.path,.bool f.dir,.slice a f.bytes.length c]:=by rw [hW0];exact AG.new w 46 _
 have c0:W0.cell? (pK w.heap.size 0)=some (.string f.path):=hp0.cell rfl
 have c1:W0.cell? (pK w.heap.size 1)=some (.bool f.dir):=hp0.cell rfl
 have hr0:=hr.below hb0
 have hm0:W0.cell? (pK 3 0)=some (.int .i64 mm):=by rw [hb0.cell (p:=(pK 3 0)) (show 3<w.heap.size by omega)];exact hm
 have HR0:=AC hr0
 have HM0:=AC hm0
 have HW0:=AC hW0
 have HP0:=AC hp0
 have HB0:=AC hb0
 have HA:=AC ha
 have HV:=AC hv
 have HI:=AC hi
 have HLN:=AC (show p.xs.length<=900000/\AU p.cs<=1000000/\(0<=p.lb/\p.lb<=1000000)/\f.path.size<=maxLen/\f.bytes.length<=1000000/\B<=w.heap.size/\3<B from ⟨hlen,hu,hlb,hs,hL,hB,hml⟩)
 have HLI:=AC (show (p.xs.length:Int)<=p.li/\p.li<=1000000/\(AU p.cs:Int)<=p.lb from ⟨hli.1,hli.2,hul⟩)
 have hs0:w.heap.size<=W0.heap.size:=hb0.size
 have HFD:=AC (show W0.heap.size>=w.heap.size from hs0)
 obtain ⟨d,hd⟩:∃d,d=f.dir:=⟨_,rfl⟩
 rw [<-hd] at c1
 have HD:=AC hd
 clear hr hi ha hv hm hW0 hb0 hp0 hr0 hm0 hlen hu hlb hli hul hs hL hB hml hs0 hd
 go_enter Tryz.func33,Tryz.ntmps33
 go_upto_region 1 with fail
 rw [<-AB HW0,<-AB HD]
 cases d with
 |true=>
  have HMK:=AC (St p B tb ab am (AU p.cs) NB MB V f.path mm W0 (AB HR0).tree (AB HI) (AB HLN).1 ⟨by have:=(AB HLI).1;omega,(AB HLI).2.1⟩ ⟨by omega,(AB HLI).2.2⟩ (AB HLN).2.2.1.2 (AB HLN).2.2.2.1 (AB HM0) (by have:=(AB HLN).2.2.2.2.2;have:=AB HFD;omega) (by have:=(AB HLN).2.2.2.2.2;have:=AB HFD;omega))
  go_wp2_with fail
  refine (AB HMK).mono ?_
  intro e w1 h1
  have HP:=AC (show G8 p f B tb ab am w e w1 from by
   have hput:p.put f=p.mkdir f.path:=by unfold PK.put;rw [if_pos (AB HD).symm]
   have hlow:=(AB HR0).tree.low
   have hl:=(AB HLN).2.2.2.2.2
   have hsz:=(AB HB0).size
   unfold G8
   rw [hput]
   rcases h1 with ⟨x1,x2,x3⟩|⟨x1,x2,m,nb,nm,x3,x4,x5,x6⟩
   ·exact ⟨((AB HB0).trans (x3.mono hsz)).mono hl.1,.inl ⟨x1,x2⟩⟩
   ·refine ⟨((AB HB0).mono hl.1).trans (x4.below hlow.1 x5 (by omega)),.inr ⟨x1,x2,NB++[nb],MB++[nm],V++[.slice none 0 0],?_⟩⟩
    have hadd:(p.mkdir f.path).2=p.add (AN p.xs f.path).dir (AN p.xs f.path).name true:=by
     unfold PK.mkdir at x1 ⊢
     split at x1
     ·rename_i y;exact absurd x1 y
     rename_i y1
     rw [if_neg y1]
     split at x1
     ·exact absurd x1 (show ¬(10:Int)=0 by decide)
     rename_i y2
     rw [if_neg y2]
     split at x1
     ·exact absurd x1 (show ¬(12:Int)=0 by decide)
     rename_i y3
     rw [if_neg y3]
    have hq:(p.mkdir f.path).2.cs=p.cs++[[]]:=by rw [hadd];rfl
    have hli:(p.mkdir f.path).2.li=p.li/\(p.mkdir f.path).2.lb=p.lb:=by rw [hadd];exact ⟨rfl,rfl⟩
    exact (AB HR0).grew (AB HI) hq x4 x6 (by rw [hli.1,hli.2];exact x3))
  obtain ⟨v,rfl⟩:∃v,e= .returned v:=by
   rcases h1 with ⟨_,x2,_⟩|⟨_,x2,_⟩
   ·exact ⟨_,x2⟩
   ·exact ⟨_,x2⟩
  clear h1 HMK c0 c1
  go_wp2
  go_ret
  exact AB HP
 |false=>
  have hne:p.xs≠[]:=by obtain ⟨x,hx,_⟩:=(AB HI).root;intro e;rw [e] at hx;cases hx
  have HFW:=AC (Fy B tb ab am p.li p.lb (AU p.cs) p.xs NB MB V f.path mm W0 (AB HR0).tree (fun _=>hne) (fun x hx=>((AB HI).ids x hx).1) (AB HI).incr (AB HLN).2.2.2.1 (AB HM0) (by have:=(AB HLN).2.2.2.2.2;have:=AB HFD;omega))
  have hput:p.put f=(p.fileCode f.path f.bytes,p.fileOut f.path f.bytes):=by unfold PK.put;rw [if_neg (by rw [<-AB HD];decide)]
  have HPT:=AC hput
  clear hne hput
  go_wp2_with fail
  refine (AB HFW).mono ?_
  rintro e w1 ⟨hb1,(⟨he,rfl⟩|⟨he,b,name,hpl,rfl⟩)⟩
  ·have HP:=AC (show G8 p f B tb ab am w (Br (AN p.xs f.path).e) (w1.alloc (Obj.cells #[.pointer none,.string ByteArray.empty,.string ByteArray.empty] 178)) from by
    have hl:=(AB HLN).2.2.2.2.2
    have hc:(p.put f).1=(AN p.xs f.path).e:=by rw [AB HPT];show p.fileCode f.path f.bytes=_;unfold PK.fileCode;rw [if_pos he]
    refine ⟨((AB HB0).trans ((hb1.alloc hb1.size _).mono (AB HB0).size)).mono hl.1,.inl ⟨by rw [hc];exact he,by rw [hc]⟩⟩)
   clear hb1 he HFW c0 c1
   unfold Iq
   go_wp2
   go_ret
   exact AB HP
  ·have hl:=AB HLN
   have hs0:=(AB HB0).size
   obtain ⟨W2,hW2⟩:∃W2,W2=w1.alloc (Obj.cells #[pq b 0,.string name,.string f.path] 178):=⟨_,rfl⟩
   have hb2:Below W0.heap.size W0 W2:=by rw [hW2];exact hb1.alloc hb1.size _
   have hp2:AG W2 w1.heap.size 178 [pq b 0,.string name,.string f.path]:=by rw [hW2];exact AG.new w1 178 _
   have hf2:=(AB HP0).below hb2 (AB HP0).lt
   have hr2:=(AB HR0).below hb2
   obtain ⟨m,k,ff,dvs,hdn,hd2,hdd,hk,hns,hBm,hcase⟩:=S5 hr2.tree (AB HI) he hpl
   obtain ⟨dv,hdv⟩:∃dv:Bool,∀c,ff name=some c->∃v0 vs,AG W2 c 258 (v0:: .bool dv::vs):=by
    rcases hcase with ⟨_,i,x,c,y1,y2,y3,y4⟩|⟨_,y,_⟩
    ·obtain ⟨mi,hmi⟩:∃mi,MB[i]? =some mi:=⟨_,zz (by rw [hr2.tree.len.2];exact (zy.1 y1).1)⟩
     obtain ⟨qn,v1,mv1,z1,_⟩:=hr2.tree.node i x c mi y1 y3 hmi
     exact ⟨x.dir,fun c' hc'=>by rw [y4] at hc';obtain rfl:=zr hc';exact ⟨_,_,z1⟩⟩
    ·exact ⟨false,fun c hc=>by rw [y] at hc;cases hc⟩
   have HMO:=AC (Jb tb ab b m k p.xs.length p.li (AU p.cs) p.lb ff name f.path true dv dvs W2 hr2.tree.tree ⟨by omega,by omega⟩ ⟨by have:=(AB HLI).1;omega,(AB HLI).2.1⟩ ⟨by omega,(AB HLI).2.2⟩ hl.2.2.1.2 hdn hd2 hdd (by omega) hdv)
   have HW2:=AC hW2
   have HB2:=AC hb2
   have HP2:=AC hp2
   have HF2:=AC hf2
   have HR2:=AC hr2
   have HDN:=AC (And.intro hdn (And.intro hd2 (And.intro hdd (And.intro hk (And.intro hns hBm)))))
   have HCA:=AC hcase
   have HDV:=AC hdv
   have HE:=AC he
   obtain ⟨PB,hPB⟩:∃PB,PB=w1.heap.size:=⟨_,rfl⟩
   clear hb1 hW2 hb2 hp2 hf2 hr2 hdn hd2 hdd hk hns hBm hcase hdv he hpl hl hs0 HFW
   unfold KZ
   go_upto_region 4 with fail
   rw [<-AB HW2]
   rw [<-hPB] at HP2 ⊢
   clear HW2 hPB c0 c1
   have c0:W2.cell? (pK PB 0)=some (pq b 0):=(AB HP2).cell rfl
   have c1:W2.cell? (pK PB 1)=some (.string name):=(AB HP2).cell rfl
   have c2:W2.cell? (pK PB 2)=some (.string f.path):=(AB HP2).cell rfl
   go_wp2_with fail
   refine (AB HMO).mono ?_
   rintro e w3 ⟨rfl,hb3⟩
   have hB3:Below W0.heap.size W0 w3:=(AB HB2).trans (hb3.mono (AB HB2).size)
   have hr3:=(AB HR2).below hb3
   have hdir:∀c,ff name=some c->∀v0 vs d,AG W2 c 258 (v0:: .bool d::vs)->d=dv:=by
    intro c hc v0 vs d hh
    obtain ⟨v0',vs',hh'⟩:=AB HDV c hc
    unfold AG at hh hh'
    rw [hh] at hh'
    injection hh' with hh'
    injection hh' with hh'
    have:=congrArg Array.toList hh'
    simp at this
    exact this.2.1
   -- what stands against it
   have hcode:∀c:Int,Su (ff name).isSome true (decide (p.li<=(p.xs.length:Int))) dv=c->c≠0->(p.put f).1=c:=by
    intro c hc hc0
    rw [AB HPT]
    show p.fileCode f.path f.bytes=c
    unfold PK.fileCode
    rw [if_neg (by simpa using AB HE)]
    rcases AB HCA with ⟨hn,i,x,c',y1,y2,y3,y4⟩|⟨hn,y,_⟩
    ·rw [if_neg (fun q=>hn q.1)]
     obtain ⟨q1,q2,_⟩:=Jy (AB HI) (AB HE) hn y1 y2
     rw [q1]
     have hxd:x.dir=dv:=by
      obtain ⟨mi,hmi⟩:∃mi,MB[i]? =some mi:=⟨_,zz (by rw [(AB HR2).tree.len.2];exact (zy.1 y1).1)⟩
      obtain ⟨qn,v1,mv1,z1,_⟩:=(AB HR2).tree.node i x c' mi y1 y3 hmi
      exact hdir c' y4 _ _ _ z1
     rw [y4] at hc
     show (if CI p.xs x.id=true then _ else _)=c
     rw [q2,hxd]
     cases dv with
     |true=>exact hc
     |false=>exact absurd hc.symm hc0
    ·rw [y] at hc
     by_cases hfl:p.li<=(p.xs.length:Int)
     ·rw [if_pos ⟨hn,hfl⟩]
      rw [decide_eq_true hfl] at hc
      exact hc
     ·rw [decide_eq_false hfl] at hc
      exact absurd hc.symm hc0
   obtain ⟨mc,hmc⟩:∃mc,mc=Su (ff name).isSome true (decide (p.li<=(p.xs.length:Int))) dv:=⟨_,rfl⟩
   rw [<-hmc]
   by_cases hz:mc=0
   ·have HFD2:=AC (And.intro hB3 hr3)
    have HMC:=AC (show Su (ff name).isSome true (decide (p.li<=(p.xs.length:Int))) dv=0 from by rw [<-hmc];exact hz)
    have HDI:=AC hdir
    subst hz
    have HP3:=AC ((AB HP2).below hb3 (AB HP2).lt)
    have HF3:=AC ((AB HF2).below hb3 (AB HF2).lt)
    have HB23:=AC hb3
    clear hcode hb3 hB3 hr3 hdir hmc HMO c0 c1 c2
    rw [show Jw 0= .returned .nilIface from rfl]
    have c0:w3.cell? (pK PB 0)=some (pq b 0):=(AB HP3).cell rfl
    have c1:w3.cell? (pK PB 1)=some (.string name):=(AB HP3).cell rfl
    have c2:w3.cell? (pK PB 2)=some (.string f.path):=(AB HP3).cell rfl
    go_upto_region 9 with fail
    have hl:=AB HLN
    have hbd:Below w3.heap.size w3 w3.drew:=⟨rfl,rfl,rfl,zx _,fun _ _=>rfl⟩
    have hbW:Below W2.heap.size W2 w3.drew:=(AB HB23).trans (hbd.mono (AB HB23).size)
    have hr3:BY w3.drew B tb ab am p NB MB V:=(AB HFD2).2.below hbd
    have hdn3:AG w3.drew b 258 dvs:=(AB HDN).1.below hbW (AB HDN).1.lt
    have hdd3:Ao w3.drew m k ff:=(AB HDN).2.2.1.kept (A7 hbW) (by simp)
    have hB3:B<=w3.heap.size:=by have:=(AB HB0).size;have:=(AB HFD2).1.size;omega
    have hFile:Calls Tryz.prog 69 #[pq tb 0,.agg #[pq b 0,.string name,.string f.path]] w3.drew fun e w5=>∃b5,e= .returned (pq b5 0)/\Iw p f.path B tb ab am w5 b5/\Below B w3 w5/\Jx w3 w5:=by
     refine (Uw tb ab b m k p.xs.length p.li (AU p.cs) p.lb ff name f.path dvs w3.drew hr3.tree.tree ⟨by omega,by omega⟩ (by have:=Xt (AB HE);omega) hdn3 (AB HDN).2.1 hdd3 (by have:=(AB HDN).2.2.2.1;omega) (by have:=(AB HDN).2.2.2.2.1;omega)).mono ?_
     rintro e w5 (⟨c5,hc5,rfl,hb5⟩|⟨hno,nb,rfl,z1,z2,z3,z4⟩)
     ·have hb35:Below w3.heap.size w3 w5:=hbd.trans hb5
      refine ⟨c5,rfl,?_,hb35.mono hB3,Jx.below hb35⟩
      rcases AB HCA with ⟨hn,i,x,c',y1,y2,y3,y4⟩|⟨hn,y,_⟩
      ·rw [y4] at hc5
       obtain rfl:=zr hc5
       have hxd:x.dir=false:=by
        obtain ⟨mi,hmi⟩:∃mi,MB[i]? =some mi:=⟨_,zz (by rw [(AB HR2).tree.len.2];exact (zy.1 y1).1)⟩
        obtain ⟨qn,v1,mv1,q1,_⟩:=(AB HR2).tree.node i x c' mi y1 y3 hmi
        have hdv:=AB HDI c' y4 _ _ _ q1
        have hm0:=AB HMC
        rw [y4] at hm0
        rw [hdv]
        cases dv with
        |true=>exact absurd hm0 (show ¬(11:Int)=0 by decide)
        |false=>rfl
       exact Zw (hr3.below hb5) (AB HI) (AB HE) hn y1 y2 hxd y3
      ·rw [y] at hc5;cases hc5
     ·have hlow:=hr3.tree.low
      have hmB:=(AB HDN).2.2.2.2.2
      refine ⟨nb,rfl,?_,?_,fun kk t vs hkk t1 t2 t3=> ?_⟩
      ·rcases AB HCA with ⟨hn,i,x,c',y1,y2,y3,y4⟩|⟨hn,y,pi,px,x1,x2,x3,x4,x5,x6,x7⟩
       ·rw [y4] at hno;cases hno
       ·subst x6 x7
        exact Zx hr3 (AB HI) (AB HE) hn x1 x2 x3 x4 x5 y z1 z2 z3 z4 hB3
      ·have:=z4.2.2.below (B:=B) hlow.1 hmB hB3
       exact ⟨this.os,this.tape,this.output,this.size,this.block⟩
      ·have hk':AG w3.drew kk t vs:=hkk.heap rfl
       exact Ab hk' (z4.2.2.block kk hk'.lt (Aw hk' hr3.tree.tree t1) (Ce hdd3 hk'))
    have hS3:w3.cell? (pK PB 0)=some (pq b 0)/\w3.cell? (pK PB 1)=some (.string name)/\w3.cell? (pK PB 2)=some (.string f.path)/\w3.cell? (pK w.heap.size 2)=some (.slice a f.bytes.length c):=⟨c0,c1,c2,(AB HF3).cell rfl⟩
    have R1:=AC (show ∀w':World,(w'.cell? (pK PB 0)=some (pq b 0)/\w'.cell? (pK PB 1)=some (.string name)/\w'.cell? (pK PB 2)=some (.string f.path)/\w'.cell? (pK w.heap.size 2)=some (.slice a f.bytes.length c))->(Instr.loadAt 178 (pq PB 0)).run Tryz.prog w'= .ok (.agg #[pq b 0,.string name,.string f.path]) w' from fun w' h=>by
     have c:=h.1
     have d:=h.2.1
     have d':=h.2.2.1
     clear h hS3 hFile hr3 hdn3 hdd3
     go_simp)
    have R2:=AC (show ∀w':World,(w'.cell? (pK PB 0)=some (pq b 0)/\w'.cell? (pK PB 1)=some (.string name)/\w'.cell? (pK PB 2)=some (.string f.path)/\w'.cell? (pK w.heap.size 2)=some (.slice a f.bytes.length c))->(Instr.loadAt 32 (pq w.heap.size 2)).run Tryz.prog w'= .ok (.slice a f.bytes.length c) w' from fun w' h=>by
     have d:=h.2.2.2
     clear h hS3 hFile hr3 hdn3 hdd3
     go_simp)
    have HFI:=AC hFile
    have HS3:=AC hS3
    clear hFile hS3 hr3 hdn3 hdd3 hbd hbW hl c0 c1 c2
    refine BA ?_
    intro A hA
    have e0:A.eval (.tmp 0)= pq tb 0:=by rw [hA];rfl
    have e3:A.eval (.tmp 3)= pq w.heap.size 0:=by rw [hA];rfl
    have e5:A.eval (.tmp 5)= pq PB 0:=by rw [hA];rfl
    have esz:A.tmps.size=37:=by rw [hA];rfl
    have HA9:=AC hA
    clear hA
    refine wp_region_held_drew (S:=fun w'=>w'.cell? (pK PB 0)=some (pq b 0)/\w'.cell? (pK PB 1)=some (.string name)/\w'.cell? (pK PB 2)=some (.string f.path)/\w'.cell? (pK w.heap.size 2)=some (.slice a f.bytes.length c)) (by kernel_rfl) (AB HS3) (fun hS=> ?_)
    refine tk 0 (some 30) rfl rfl (by kernel_rfl) (fun _ _ _=>id) (AK rfl _ rfl (pq tb 0) (by simp [AF,AE,esz,e0,e3,e5])) hS ?_
    refine tk 1 (some 31) rfl rfl (by kernel_rfl) (fun _ _ _=>id) (AK rfl _ rfl (pq tb 0) (by simp [AF,AE,esz,e0,e3,e5])) hS ?_
    refine tk 2 (some 32) rfl rfl (by kernel_rfl) (fun _ _ _=>id) (AQ rfl _ _ rfl (pK PB 0) (by simp [AF,AE,esz,e0,e3,e5]) (.agg #[pq b 0,.string name,.string f.path]) (AB R1)) hS ?_
    refine tk 4 (some 34) rfl rfl (by kernel_rfl) (fun _ _ _=>id) (AO rfl _ _ _ rfl (pq w.heap.size 0) (by simp [AF,AE,esz,e0,e3,e5]) (pq w.heap.size 2) (fun w'=>by go_simp)) hS ?_
    refine tk 5 (some 35) rfl rfl (by kernel_rfl) (fun _ _ _=>id) (AQ rfl _ _ rfl (pK w.heap.size 2) (by simp [AF,AE,esz,e0,e3,e5]) (.slice a f.bytes.length c) (AB R2)) hS ?_
    refine rdy [3] (by kernel_rfl) (AllReadyH.cons rfl (fun K hK=> ?_) AllReadyH.nil)
    refine S6 rfl 69 31 32 _ _ rfl (pq tb 0) (.agg #[pq b 0,.string name,.string f.path]) (by simp [AF,AE,esz,e0,e3,e5]) (by simp [AF,AE,esz,e0,e3,e5]) Xy _ (fun e w' h=>by obtain ⟨b5,h,_⟩:=h;exact ⟨_,h⟩) (AB HFI) (some 33) rfl ?_
    rintro r5 w5 ⟨b5,hr5,hdone,hb5,hk5⟩
    have hr5:r5= pq b5 0:=by injection hr5
    subst hr5
    have hPB5:=hk5 PB _ _ (AB HP3) (by decide) (by decide) (by decide)
    have hF5:=hk5 w.heap.size _ _ (AB HF3) (by decide) (by decide) (by decide)
    refine hK.out _ _ ⟨hPB5.cell rfl,hPB5.cell rfl,hPB5.cell rfl,hF5.cell rfl⟩ (fun _=> ?_)
    clear hK K
    obtain ⟨NB5,MB5,V5,i5,x5,d1,d2,d3,d4,d5,d6,d7,d8,d9⟩:=hdone
    have hl:=AB HLN
    have hB5:B<=w5.heap.size:=by have:=hb5.size;omega
    have hWB:Below B w w5:=(((AB HB0).mono hl.2.2.2.2.2.1).trans ((AB HFD2).1.mono (by have:=(AB HB0).size;omega))).trans hb5
    have hv5:BC w5 q o f.bytes:=by
     intro j hj
     have hq:=(AB HA (by omega)).2
     rw [hWB.cell (p:=(pK q (o+j))) hq]
     exact AB HV j hj
    have hn0:¬((AN p.xs f.path).n=0/\p.li<=(p.xs.length:Int)):=by
     rintro ⟨q1,q2⟩
     have hm0:=AB HMC
     rcases AB HCA with ⟨hn,_⟩|⟨_,y,_⟩
     ·exact hn q1
     ·rw [y,decide_eq_true q2] at hm0;exact absurd hm0 (show ¬(12:Int)=0 by decide)
    have hol:((p.opened f.path).1.xs.length:Int)<=(p.opened f.path).1.li/\(p.opened f.path).1.li<=1000000:=by
     have:=AB HLI
     unfold PK.opened
     split
     ·rename_i q
      refine ⟨?_,this.2.1⟩
      show (((p.xs++[Bh (p.last+1) (AN p.xs f.path).dir (AN p.xs f.path).name false]).length:Nat):Int)<=p.li
      rw [zn]
      have:¬p.li<=(p.xs.length:Int):=fun q2=>hn0 ⟨q,q2⟩
      simp
      omega
     ·exact ⟨this.1,this.2.1⟩
    have HWR:=AC (Xx (p.opened f.path).1 B tb ab am i5 b5 q o c a NB5 MB5 V5 x5 f.bytes _ w5 d1 d2 d3 d4 d5 d6 hl.2.2.2.2.1 (by rw [d8];exact hl.2.1) (by rw [d9];exact hl.2.2.1) hol (AB HA) hv5 hB5)
    have g30:((((((A.put (some 30) (pq tb 0)).put (some 31) (pq tb 0)).put (some 32) (.agg #[pq b 0,.string name,.string f.path])).put (some 34) (pq w.heap.size 2)).put (some 35) (.slice a f.bytes.length c)).put (some 33) (pq b5 0)).eval (.tmp 30)= pq tb 0:=by simp [AF,AE,esz,e0,e3,e5]
    have g33:((((((A.put (some 30) (pq tb 0)).put (some 31) (pq tb 0)).put (some 32) (.agg #[pq b 0,.string name,.string f.path])).put (some 34) (pq w.heap.size 2)).put (some 35) (.slice a f.bytes.length c)).put (some 33) (pq b5 0)).eval (.tmp 33)= pq b5 0:=by simp [AF,AE,esz,e0,e3,e5]
    have g35:((((((A.put (some 30) (pq tb 0)).put (some 31) (pq tb 0)).put (some 32) (.agg #[pq b 0,.string name,.string f.path])).put (some 34) (pq w.heap.size 2)).put (some 35) (.slice a f.bytes.length c)).put (some 33) (pq b5 0)).eval (.tmp 35)= .slice a f.bytes.length c:=by simp [AF,AE,esz,e0,e3,e5]
    refine rdy [6] (by kernel_rfl) (AllReadyH.cons rfl (fun K hK=> ?_) AllReadyH.nil)
    refine S7 rfl 68 30 33 35 (.int .i64 0) _ rfl (pq tb 0) (pq b5 0) (.slice a f.bytes.length c) g30 g33 g35 Uy _ (fun e w' h=>by
     rcases h.2 with ⟨_,q⟩|⟨_,q,_⟩
     ·exact ⟨_,q⟩
     ·exact ⟨_,q⟩) (AB HWR) (some 36) rfl ?_
    intro r6 w6 h6
    have hPB6:=h6.1.2 PB _ _ hPB5 (by decide) (by decide) (by decide)
    have hF6:=h6.1.2 w.heap.size _ _ hF5 (by decide) (by decide) (by decide)
    refine hK.out _ _ ⟨hPB6.cell rfl,hPB6.cell rfl,hPB6.cell rfl,hF6.cell rfl⟩ (fun hS6=> ?_)
    clear hK K
    have HP:=AC (show G8 p f B tb ab am w (.returned r6) w6 from by
     have hdo:CI (p.opened f.path).1.xs (p.opened f.path).2=false:=by
      rcases AB HCA with ⟨hn,i,x,c',y1,y2,y3,y4⟩|⟨hn,y,_⟩
      ·obtain ⟨q1,q2,q3,_⟩:=Jy (AB HI) (AB HE) hn y1 y2
       rw [q1] at d3 d7 ⊢
       have hii:i5=i:=by rw [<-d7];exact q3
       subst hii
       have d3':p.xs[i5]? =some x5:=d3
       rw [y1] at d3'
       obtain rfl:=zr d3'
       exact q2.trans d4
      ·obtain ⟨q1,q2,_⟩:=Na (AB HI) (AB HE) hn
       rw [q1];exact q2
     have hcd:(p.put f).1=if 0<f.bytes.length/\p.lb<(AU (p.opened f.path).1.cs:Int)-(((p.opened f.path).1.old (p.opened f.path).2).length:Int)+((max f.bytes.length ((p.opened f.path).1.old (p.opened f.path).2).length:Nat):Int) then 12 else 0:=by
      rw [AB HPT]
      show p.fileCode f.path f.bytes=_
      unfold PK.fileCode
      rw [if_neg (by simpa using AB HE),if_neg hn0,if_neg (by rw [hdo];decide)]
     have hot:(p.put f).2=if f.bytes.length=0 then (p.opened f.path).1 else {(p.opened f.path).1 with cs:=(p.opened f.path).1.cs.set i5 (Ee ((p.opened f.path).1.old (p.opened f.path).2) f.bytes)}:=by
      rw [AB HPT,<-d7]
      rfl
     refine ⟨hWB.trans h6.1.1,?_⟩
     rcases h6.2 with ⟨q1,q2⟩|⟨q1,q2,V',q3⟩
     ·rw [d9] at q1
      rw [if_pos q1] at hcd
      exact .inl ⟨by rw [hcd];decide,by rw [hcd];exact q2⟩
     ·rw [d9] at q1
      rw [if_neg q1] at hcd
      exact .inr ⟨hcd,q2,NB5,MB5,V',by rw [hot];exact q3⟩)
    refine tk 7 (some 4) rfl rfl (by kernel_rfl) (fun _ _ _=>id) (Ct rfl _ rfl r6 (by simp [AF,AE,esz])) hS6 ?_
    refine wpAnyH_done (by kernel_rfl) ?_ _
    rw [AB HA9]
    simp only [Act.put,zm,zi,zj]
    clear hPB6 hF6 h6 g30 g33 g35 HWR hn0 hol hv5 hWB hB5 hl d1 d2 d3 d4 d5 d6 d7 d8 d9 hPB5 hF5 hb5 hk5 HA9 e0 e3 e5 esz hS hS6 HFI R1 R2
    go_wp2
    go_ret
    exact AB HP
   ·have HP:=AC (show G8 p f B tb ab am w (Br mc) w3 from by
     have hc:=hcode mc hmc.symm hz
     have hl:=(AB HLN).2.2.2.2.2
     refine ⟨((AB HB0).trans (hB3.mono (AB HB0).size)).mono hl.1,.inl ⟨by rw [hc];exact hz,by rw [hc]⟩⟩)
    rw [show Jw mc=Br mc from by unfold Jw;rw [if_neg hz]]
    clear hcode hb3 hB3 hr3 hdir hmc HMO c0 c1 c2 hz
    unfold Br
    go_wp2
    go_ret
    exact AB HP
theorem Nb {P:Program} {ops:Array Oper} {S:World->Prop} {o:Oper} {A:Act} (hg:o.guard=none) (t:Nat) (ts:Array TypeId) (ho:o.op= .call {callee:= .builtin .len,args:=#[.tmp t],argTypes:=ts}) (v:Value) (hx:A.eval (.tmp t)=v) (r:Value) (hrun:∀w',S w'->(Builtin.len_ ts o.type #[v]).run P w'= .ok r w'):YieldsIf P ops S o r A:=
 Bj hg fun w' hS=>by
  have hx':A.tmps[t]?.getD undef=v:=by rw [<-hx];simp [go_sem]
  have:=hrun w' hS
  simp [execOp,ho,hx',invoke,resolve,go_sem,this]
theorem E4 {P:Program} {ops:Array Oper} {S:World->Prop} {o:Oper} {A:Act} (hg:o.guard=none) (ty:TypeId) (parts:Array (Nat×Operand)) (ho:o.op= .build ty parts) (vals:Array (Nat×Value)) (hv:(parts.map fun (i,x)=>(i,A.eval x))=vals) (v:Value) (hrun:∀w,(Instr.build ty vals).run P w= .ok v w):YieldsIf P ops S o v A:=
 Bj hg fun w' hS=>by
  simp only [execOp,ho]
  rw [hv]
  simp [hrun]
theorem MQ {P:Program} {ops:Array Oper} {o:Oper} {a:Act} {w:World} {K:Act->World->Prop} {Q:Exit->Act->World->Prop} {E:Prop} (hgd:o.guard=none) (ty:TypeId) (x y:Operand) (ho:o.op= .store ty x y)
  (g off:Nat) (cs:List Value) (hx:a.eval x= pq g off) (hy:a.eval y= .agg cs.toArray)
  (t:TypeId) (old:List Value) (hg:AG w g t old) (hi:(P.info? ty).map (·.size)=some cs.length) (hfit:off+cs.length<=old.length) (h1:∀v∈cs,v.oneCell'=true) (hd:o.dst=none)
  (h:∀w',Hid (AG w' g t (splice old off cs))->Hid (w.grownBy w' (some g))->K a w'):
  if Region.wanted o (yielded ops a.tmps)=true then Oper.wp P o a w K Q else E:=by
 have hw:Region.wanted o (yielded ops a.tmps)=true:=by simp [Region.wanted,hgd]
 rw [if_pos hw]
 refine wp_store_mid ty x y ho g off cs.toArray hx hy (LT hg _ _ (by simpa using hfit)) (by simpa using hi) (all_oneCell_toArray h1) ?_
 rw [hd]
 exact h _ (AC (Er cs off _ _ hg hfit)) (AC (Es cs off w ⟨rfl,rfl,rfl,zx _,fun _ _ _=>rfl⟩))
theorem Lt:∀args w,(callFunc 132 args).run Tryz.prog w= .ok (.enter 132 args) w:=enters_of Tryz.func132 (by kernel_rfl) rfl
theorem Nc (kb pm pb:Nat) (lp lf lo li lb:Int) (tb cb:Nat) (PS:List Pg) (w:World) (hk:AG w kb 112 (EQ lp lf lo li lb tb cb pm)) (hm:A6 w pm pb) (hpl:pb<w.heap.size) (hp:Gc w pb PS) (hok:As PS) (hn:PS.length<=256) (hlf:0<=lf/\lf<=1000000):
  Calls Tryz.prog 74 #[pq kb 0] w fun e w'=>e= .returned (.int .i64 (lf-(PS.length:Int)))/\Below w.heap.size w w':=by
 have hbd:Below w.heap.size w w.drew:=⟨rfl,rfl,rfl,zx _,fun _ _=>rfl⟩
 have HFR:=AC (NZ kb pm pb lp lf lo li lb tb cb PS w.drew (hk.heap rfl) (hm.kept (A7 hbd) (by simp)) hpl (hp.below hbd hpl) hok hn)
 have hS0:w.cell? (pK kb 1)=some (.int .i64 lf):=hk.cell rfl
 have hkl:=hk.lt
 have R1:=AC (show ∀w':World,w'.cell? (pK kb 1)=some (.int .i64 lf)->(Instr.loadAt 3 (pq kb 1)).run Tryz.prog w'= .ok (.int .i64 lf) w' from fun w' h=>by
  clear hS0 hk hm hp
  go_simp)
 have HS0:=AC hS0
 have hw1: -9223372036854775808<=lf-(PS.length:Int):=by omega
 have hw2:lf-(PS.length:Int)<=9223372036854775807:=by omega
 have R2:=AC (show ∀w':World,((do eqGuard .sub 3 (.tmp 7) (.tmp 9) (.int .i64 lf) (.int .i64 (PS.length:Nat));binOp .sub 3 (.int .i64 lf) (.int .i64 (PS.length:Nat)):Sem Value)).run Tryz.prog w'= .ok (.int .i64 (lf-(PS.length:Int))) w' from fun w'=>by
  clear hS0 hk hm hp
  go_simp
  rw [yl]
  omega)
 clear hk hm hp hok hS0 hbd hn hlf
 go_enter Tryz.func74,Tryz.ntmps74
 go_upto_region 1 with fail
 refine BA ?_
 intro A hA
 have e0:A.eval (.tmp 0)= pq kb 0:=by rw [hA];rfl
 have esz:A.tmps.size=11:=by rw [hA];rfl
 have HA:=AC hA
 clear hA
 refine wp_region_held_drew (S:=fun w'=>w'.cell? (pK kb 1)=some (.int .i64 lf)) (by kernel_rfl) (AB HS0) (fun hS=> ?_)
 refine tk 0 (some 3) rfl rfl (by kernel_rfl) (fun _ _ _=>id) (AK rfl _ rfl (pq kb 0) (by simp [AF,AE,esz,e0])) hS ?_
 refine tk 1 (some 4) rfl rfl (by kernel_rfl) (fun _ _ _=>id) (AX rfl _ rfl (pK kb 0) (by simp [AF,AE,esz,e0])) hS ?_
 refine tk 2 (some 5) rfl rfl (by kernel_rfl) (fun _ _ _=>id) (AO rfl _ _ _ rfl (pq kb 0) (by simp [AF,AE,esz,e0]) (pq kb 0) (fun w'=>by go_simp)) hS ?_
 refine tk 3 (some 6) rfl rfl (by kernel_rfl) (fun _ _ _=>id) (AO rfl _ _ _ rfl (pq kb 0) (by simp [AF,AE,esz,e0]) (pq kb 1) (fun w'=>by go_simp)) hS ?_
 refine tk 4 (some 7) rfl rfl (by kernel_rfl) (fun _ _ _=>id) (AQ rfl _ _ rfl (pK kb 1) (by simp [AF,AE,esz,e0]) (.int .i64 lf) (AB R1)) hS ?_
 refine tk 5 (some 8) rfl rfl (by kernel_rfl) (fun _ _ _=>id) (AK rfl _ rfl (pq kb 0) (by simp [AF,AE,esz,e0])) hS ?_
 refine rdy [6] (by kernel_rfl) (AllReadyH.cons rfl (fun K hK=> ?_) AllReadyH.nil)
 refine DK rfl 132 8 _ rfl (pq kb 0) (by simp [AF,AE,esz,e0]) Lt _ (.int .i64 (PS.length:Nat)) (fun e w' h=>h.1) (AB HFR) (some 9) rfl ?_
 rintro w2 ⟨_,hb2⟩
 have hb2':Below w.heap.size w w2:=⟨hb2.os,hb2.tape,hb2.output,hb2.size,hb2.block⟩
 refine hK.out _ _ (by rw [hb2'.cell (p:=(pK kb 1)) hkl];exact AB HS0) (fun hS2=> ?_)
 clear hK K
 refine tk 7 (some 10) rfl rfl (by kernel_rfl) (fun _ _ _=>id) (B7 rfl .sub 3 _ (.tmp 7) (.tmp 9) rfl (.int .i64 lf) (.int .i64 (PS.length:Nat)) (by simp [AF,AE,esz,e0]) (by simp [AF,AE,esz,e0]) (.int .i64 (lf-(PS.length:Int))) (AB R2)) hS2 ?_
 refine tk 8 (some 2) rfl rfl (by kernel_rfl) (fun _ _ _=>id) (Ct rfl _ rfl (.int .i64 (lf-(PS.length:Int))) (by simp [AF,AE,esz])) hS2 ?_
 refine wpAnyH_done (by kernel_rfl) ?_ _
 have HB2:=AC hb2'
 rw [AB HA]
 simp only [Act.put,zm,zi,zj]
 clear hb2 hb2' hS hS2 HA e0 esz R1 R2 HFR
 go_wp2
 go_ret
 exact ⟨rfl,AB HB2⟩
end
section
open Go Go.RowKit
def IR (n:Int):List Value:=[.int .i64 n,.int .i64 4,.int .i64 0]
theorem TF (v:Value) (w:World):(Instr.typeAssert (.iface 99 v) 192 416 true).run Tryz.prog w= .ok (.tuple #[.pointer none,.bool false]) w:=by kernel_rfl
theorem TG (v:Value) (w:World):(Instr.typeAssert (.iface 99 v) 192 428 true).run Tryz.prog w= .ok (.tuple #[.pointer none,.bool false]) w:=by kernel_rfl
theorem Qw (v:Value) (w:World):(Instr.typeAssert (.iface 99 v) 192 429 true).run Tryz.prog w= .ok (.tuple #[.pointer none,.bool false]) w:=by kernel_rfl
theorem U9 (v:Value) (w:World):(Instr.typeAssert (.iface 99 v) 192 99 true).run Tryz.prog w= .ok (.tuple #[v,.bool true]) w:=by kernel_rfl
theorem Jz (n:Int) (cb:Nat) (w:World):Calls Tryz.prog 278 #[.int .i64 n,Dz cb] w fun e w'=>e= .returned (.agg (IR n).toArray)/\Below w.heap.size w w':=by
 unfold Dz
 have a1:=TF
 have a2:=TG
 have a3:=Qw
 have a4:=U9
 go_enter Tryz.func278,Tryz.ntmps278
 go_wp2
 refine bodyPost_ret (v:= .agg (IR n).toArray) (by simp [results,Tryz.results278,go_sem,IR]) rfl ⟨rfl,?_⟩
 exact ((zw w.heap.size w).alloc (zx _) _).alloc (by simp) _
def Gf (n:Nat):List Value:=(List.range n).flatMap (fun k:Nat=>IR (k:Int))
theorem ee:(Tryz.prog.info? 253).map (fun i=>(i.zero,i.size,i.bytes))=some (some (.agg #[.int .i64 0,.int .i64 0,.int .i64 0]),3,24):=by kernel_rfl
theorem aA (cb:Nat):DW cb 3=[Dz cb,Dz cb,Dz cb,.nilIface,.nilIface,.nilIface,.nilIface,.nilIface]:=rfl
theorem LE (n:Int):∀u∈IR n,u.oneCell'=true:=by
 intro u hu
 simp only [IR,List.mem_cons,List.not_mem_nil,or_false] at hu
 rcases hu with rfl|rfl|rfl<;>rfl
theorem ef (x0 x1 x2 x3 x4 x5 x6 x7:Value) (w:World):(Instr.index 193 (.agg #[x0,x1,x2,x3,x4,x5,x6,x7]) (.int .i64 0)).run Tryz.prog w= .ok x0 w:=by kernel_rfl
theorem eh (x0 x1 x2 x3 x4 x5 x6 x7:Value) (w:World):(Instr.index 193 (.agg #[x0,x1,x2,x3,x4,x5,x6,x7]) (.int .i64 1)).run Tryz.prog w= .ok x1 w:=by kernel_rfl
theorem ei (x0 x1 x2 x3 x4 x5 x6 x7:Value) (w:World):(Instr.index 193 (.agg #[x0,x1,x2,x3,x4,x5,x6,x7]) (.int .i64 2)).run Tryz.prog w= .ok x2 w:=by kernel_rfl
theorem ek (x0 x1 x2 x3 x4 x5 x6 x7:Value) (w:World):(Instr.index 193 (.agg #[x0,x1,x2,x3,x4,x5,x6,x7]) (.int .i64 3)).run Tryz.prog w= .ok x3 w:=by kernel_rfl
theorem eo (x0 x1 x2 x3 x4 x5 x6 x7:Value) (w:World):(Instr.index 193 (.agg #[x0,x1,x2,x3,x4,x5,x6,x7]) (.int .i64 4)).run Tryz.prog w= .ok x4 w:=by kernel_rfl
theorem ep (x0 x1 x2 x3 x4 x5 x6 x7:Value) (w:World):(Instr.index 193 (.agg #[x0,x1,x2,x3,x4,x5,x6,x7]) (.int .i64 5)).run Tryz.prog w= .ok x5 w:=by kernel_rfl
theorem er (x0 x1 x2 x3 x4 x5 x6 x7:Value) (w:World):(Instr.index 193 (.agg #[x0,x1,x2,x3,x4,x5,x6,x7]) (.int .i64 6)).run Tryz.prog w= .ok x6 w:=by kernel_rfl
theorem eu (x0 x1 x2 x3 x4 x5 x6 x7:Value) (w:World):(Instr.index 193 (.agg #[x0,x1,x2,x3,x4,x5,x6,x7]) (.int .i64 7)).run Tryz.prog w= .ok x7 w:=by kernel_rfl
theorem Qx:(Tryz.prog.info? 193).map (·.size)=some 8:=by kernel_rfl
theorem TH (pb cb:Nat) (w:World) (hf:w.rangeAt pb 65814 (DW cb 3)):
  Calls Tryz.prog 202 #[pq pb 0] w fun e w'=>∃v,e= .returned v/\w'.ownsRow w.heap.size 253 3 v 3 (Gf 3)/\Below w.heap.size w w':=by
 rw [aA] at hf
 have HF:=AC hf
 obtain ⟨ip,hip,hpz0,hpz1,hpz2⟩:=info_parts ee
 have HIP:=AC (And.intro hip (And.intro hpz0 (And.intro hpz1 hpz2)))
 clear hf hip hpz0 hpz1 hpz2
 go_enter Tryz.func202,Tryz.ntmps202
 go_wp2_with (refine wpList_load_mid rfl 193 _ rfl pb 65814 (by rfl) _ _ (AB HF) Tryz.underlying193 rfl (by rw [Qx];rfl) ?_)
 go_loopw [3,10] (fun v i wr=>∃k:Nat,k<=8/\i= .int .i64 k/\Hid (wr.ownsRow w.heap.size 253 3 v (min k 3) (Gf (min k 3)))/\Hid (Below w.heap.size w wr)) (fun _ i _=>8-(intOf i).toNat)
 case atStart=>exact ⟨0,by omega,rfl,AC (World.ownsRow_nil _ _ _ _),AC (zw _ _)⟩
 case round=>
  obtain ⟨k,hk,rfl,HO,HB⟩:=hrel
  have hs0:=(AB HB).size
  have HAPP:=AC (show ∀(m:Nat) (w1:World),m<3->m=k->Below wr.heap.size wr w1->w1.ownsRow w.heap.size 253 3 u3 m (Gf m) from fun m w1 hm hmk hb=>by
   have h:=BO (AB HO) (AC hb)
   rw [<-hmk,show min m 3=m by omega] at h
   exact h)
  have h9:k=0\/k=1\/k=2\/k=3\/k=4\/k=5\/k=6\/k=7\/k=8:=by omega
  rcases h9 with rfl|rfl|rfl|rfl|rfl|rfl|rfl|rfl|rfl
  ·have HT:=AC (Jz 0 cb wr)
   have ix:=ef
   unfold Dz at HT ⊢
   go_wp2_with fail
   refine (AB HT).mono ?_
   rintro e w1 ⟨rfl,hb1⟩
   have hs1:=hb1.size
   have hb2:Below wr.heap.size wr (w1.alloc (Obj.cells #[.int .i64 0,.int .i64 4,.int .i64 0] 253)):=hb1.trans ((zw _ _).alloc hb1.size _)
   have HA:=AC (AB HAPP 0 _ (by omega) rfl hb2)
   have HB2:=AC ((AB HB).trans (hb2.mono hs0))
   unfold IR
   clear hb1 hb2 HT
   go_wp2_with (at_builtin;refine wpList_append_lies _ (by rfl) _ _ 161 (by rfl) w.heap.size 253 ip _ 3 24 Tryz.underlying161 (AB HIP).1 (AB HIP).2.1 (AB HIP).2.2.1 (AB HIP).2.2.2 rfl (by decide) u3 0 (Gf 0) (by rfl) (AB HA) (pK w1.heap.size 0) 1 1 (IR 0) (by rfl) (by rfl) (WW w1 _ _ _ _) (LE 0) (by omega) (by unfold maxLen;omega) (by omega) (by simp;omega) (w1.heap.size+1) (by simp) ?_;intro g8 c8 w8 hown8 hgrow8 hat8 hlt8)
   refine ⟨⟨1,by omega,by simp,AC hown8,AC ((AB HB2).trans ⟨hgrow8.os,hgrow8.tape,hgrow8.output,hgrow8.size,fun q hq=>hgrow8.block q (by simp;omega) (fun e=> ?_)⟩)⟩,by simp [intOf]⟩
   have:=(AB HA).lt q e.symm
   omega
  ·have HT:=AC (Jz 1 cb wr)
   have ix:=eh
   unfold Dz at HT ⊢
   go_wp2_with fail
   refine (AB HT).mono ?_
   rintro e w1 ⟨rfl,hb1⟩
   have hs1:=hb1.size
   have hb2:Below wr.heap.size wr (w1.alloc (Obj.cells #[.int .i64 1,.int .i64 4,.int .i64 0] 253)):=hb1.trans ((zw _ _).alloc hb1.size _)
   have HA:=AC (AB HAPP 1 _ (by omega) rfl hb2)
   have HB2:=AC ((AB HB).trans (hb2.mono hs0))
   unfold IR
   clear hb1 hb2 HT
   go_wp2_with (at_builtin;refine wpList_append_lies _ (by rfl) _ _ 161 (by rfl) w.heap.size 253 ip _ 3 24 Tryz.underlying161 (AB HIP).1 (AB HIP).2.1 (AB HIP).2.2.1 (AB HIP).2.2.2 rfl (by decide) u3 1 (Gf 1) (by rfl) (AB HA) (pK w1.heap.size 0) 1 1 (IR 1) (by rfl) (by rfl) (WW w1 _ _ _ _) (LE 1) (by omega) (by unfold maxLen;omega) (by omega) (by simp;omega) (w1.heap.size+1) (by simp) ?_;intro g8 c8 w8 hown8 hgrow8 hat8 hlt8)
   refine ⟨⟨2,by omega,by simp,AC hown8,AC ((AB HB2).trans ⟨hgrow8.os,hgrow8.tape,hgrow8.output,hgrow8.size,fun q hq=>hgrow8.block q (by simp;omega) (fun e=> ?_)⟩)⟩,by simp [intOf]⟩
   have:=(AB HA).lt q e.symm
   omega
  ·have HT:=AC (Jz 2 cb wr)
   have ix:=ei
   unfold Dz at HT ⊢
   go_wp2_with fail
   refine (AB HT).mono ?_
   rintro e w1 ⟨rfl,hb1⟩
   have hs1:=hb1.size
   have hb2:Below wr.heap.size wr (w1.alloc (Obj.cells #[.int .i64 2,.int .i64 4,.int .i64 0] 253)):=hb1.trans ((zw _ _).alloc hb1.size _)
   have HA:=AC (AB HAPP 2 _ (by omega) rfl hb2)
   have HB2:=AC ((AB HB).trans (hb2.mono hs0))
   unfold IR
   clear hb1 hb2 HT
   go_wp2_with (at_builtin;refine wpList_append_lies _ (by rfl) _ _ 161 (by rfl) w.heap.size 253 ip _ 3 24 Tryz.underlying161 (AB HIP).1 (AB HIP).2.1 (AB HIP).2.2.1 (AB HIP).2.2.2 rfl (by decide) u3 2 (Gf 2) (by rfl) (AB HA) (pK w1.heap.size 0) 1 1 (IR 2) (by rfl) (by rfl) (WW w1 _ _ _ _) (LE 2) (by omega) (by unfold maxLen;omega) (by omega) (by simp;omega) (w1.heap.size+1) (by simp) ?_;intro g8 c8 w8 hown8 hgrow8 hat8 hlt8)
   refine ⟨⟨3,by omega,by simp,AC hown8,AC ((AB HB2).trans ⟨hgrow8.os,hgrow8.tape,hgrow8.output,hgrow8.size,fun q hq=>hgrow8.block q (by simp;omega) (fun e=> ?_)⟩)⟩,by simp [intOf]⟩
   have:=(AB HA).lt q e.symm
   omega
  ·have ix:=ek
   go_wp2
   exact ⟨⟨4,by omega,by simp,HO,HB⟩,by simp [intOf]⟩
  ·have ix:=eo
   go_wp2
   exact ⟨⟨5,by omega,by simp,HO,HB⟩,by simp [intOf]⟩
  ·have ix:=ep
   go_wp2
   exact ⟨⟨6,by omega,by simp,HO,HB⟩,by simp [intOf]⟩
  ·have ix:=er
   go_wp2
   exact ⟨⟨7,by omega,by simp,HO,HB⟩,by simp [intOf]⟩
  ·have ix:=eu
   go_wp2
   exact ⟨⟨8,by omega,by simp,HO,HB⟩,by simp [intOf]⟩
  ·go_wp2
   go_ret
   exact ⟨_,rfl,AB HO,AB HB⟩
theorem aB (w:World) (n:Nat) (h:n<=100000):∃cur:Array Value,cur.size=n*258/\(Instr.makeSlice 160 (.int .i64 0) (.int .i64 n)).run Tryz.prog w= .ok (.slice (some (pK w.heap.size 0)) 0 n) (w.alloc (.cells cur 166)):=by
 obtain ⟨i,hi,hzz⟩:=Option.map_eq_some_iff.1 KS
 simp only [Prod.mk.injEq] at hzz
 obtain ⟨hz,hs,hb⟩:=hzz
 have hr:=run_make (P:=Tryz.prog) w 160 166 i _ Tryz.underlying160 hi hz .i64 .i64 0 n (by omega) (by omega) (by rw [hb];omega) (by omega)
 rw [hs,Int.toNat_natCast] at hr
 exact ⟨_,by simp [madeCells],hr⟩
theorem VA (w:World):((#[{name:= "Number",type:=3,offset:=0,embedded:=false,tag:= "",pkgPath:= "",byteOffset:=0},{name:= "Perm",type:=164,offset:=1,embedded:=false,tag:= "",pkgPath:= "",byteOffset:=8},{name:= "Bytes",type:=136,offset:=2,embedded:=false,tag:= "",pkgPath:= "",byteOffset:=9}]:Array Field).mapM fun f=>(do pure (f.offset,<-sizeOf f.type):Sem (Nat×Nat))).run Tryz.prog w= .ok #[(0,1),(1,1),(2,256)] w:=by kernel_rfl
theorem X6 (num perm:Int) (bytes:List Int) (hb:bytes.length=256) (w:World):(Instr.build 166 #[(0,.int .i64 num),(1,.int .u8 perm),(2,.agg (AJ bytes).toArray)]).run Tryz.prog w= .ok (.agg (Av num perm bytes).toArray) w:=by
 have hzv:=Tryz.zeroValue166 w
 have hl:Tryz.zeroCells166.toList.length=258:=by rw [xu];exact Tryz.zeroCells166_size
 generalize Tryz.zeroCells166=ZA at hzv hl
 obtain ⟨Z⟩:=ZA
 have hl:Z.length=258:=hl
 have hff:Instr.fill (fun i=>(#[(0,1),(1,1),(2,256)]:Array (Nat×Nat))[i]?) (Value.agg Z.toArray).cells [(0,Value.int .i64 num),(1,Value.int .u8 perm),(2,Value.agg (AJ bytes).toArray)]=some (Av num perm bytes).toArray:=by
  show Instr.fill _ Z.toArray _=_
  rw [FE _ _ 0 0 1 _ _ rfl rfl (by rw [hl];omega),FE _ _ 1 1 1 _ _ rfl rfl (by rw [BE _ _ _ (by simp [Value.cells,hl])];omega),FE _ _ 2 2 256 _ _ rfl (by simp [Value.cells,AM,hb]) (by rw [BE _ _ _ (by rw [BE _ _ _ (by simp [Value.cells,hl])];simp [Value.cells,hl]),BE _ _ _ (by simp [Value.cells,hl])];omega)]
  refine congrArg some (congrArg List.toArray ?_)
  match Z,hl with
  |z0::z1::r,hl=>
   have hr:r.length=256:=by simpa using hl
   unfold splice Av
   simp [Value.cells,AM,hb,hr]
 unfold Instr.build
 simp only [Sem.run_bind,hzv,yk,run_underlying Tryz.underlying166,VA,hff]
 rfl
theorem IC {w:World} {pb so:Nat} {PS:List Pg} (hok:As PS) (h:w.rangeAt pb so (Af PS)) {j:Nat} (hj:j<256):w.cell? (pK pb (so+j*257))=some (.int .u8 (Cx PS j))/\∀p,PS.find? (fun p=>p.num==(j:Int))=some p->w.rangeAt pb (so+j*257+1) (AJ p.bytes):=by
 have hb:∀p∈PS,p.bytes.length=256:=fun p hp=>(hok.each p hp).2.2.2.2
 refine ⟨h _ _ (by have:=Gz hb j 0 hj (by omega);rw [Nat.add_zero] at this;rw [this];exact Ml PS j),fun p hp i v hv=> ?_⟩
 have hi:=(zy.1 hv).1
 rw [AM,hb p (yq hp)] at hi
 rw [Nat.add_assoc so,Nat.add_assoc so,Nat.add_assoc (j*257)]
 refine h _ _ ?_
 rw [Gz hb j (1+i) hj (by omega)]
 unfold Cv Bw
 rw [hp,Nat.add_comm 1 i]
 exact hv
theorem Nj (pb so:Nat) (PS:List Pg) (w:World) (hok:As PS) (hc:w.rangeAt pb so (Af PS)) (hpl:pb<w.heap.size):
  Calls Tryz.prog 201 #[pq pb so] w fun e w'=>∃v,e= .returned v/\w'.ownsRow w.heap.size 166 258 v PS.length (BG PS)/\Below w.heap.size w w':=by
 have HCT:=AC (Kw pb so PS w hok (fun j hj=>(IC hok hc hj).1))
 have hPl:PS.length<=256:=by have:=G0 PS 256;rwa [JB hok] at this
 have hPi:(PS.length:Int)<=256:=by omega
 obtain ⟨cur,hcur,hmk⟩:=aB w PS.length (by omega)
 obtain ⟨W1,hW1⟩:∃W1,W1=w.alloc (.cells cur 166):=⟨_,rfl⟩
 have hb1:Below w.heap.size w W1:=by rw [hW1];exact (zw _ _).alloc (zx _) _
 have ho1:W1.ownsRow w.heap.size 166 258 (.slice (some (pK w.heap.size 0)) 0 PS.length) (Dy PS 0).length (BG (Dy PS 0)):=by rw [hW1];exact World.ownsRow_made w cur PS.length (zx _) (by unfold maxLen;omega) hcur
 have HOK:=AC hok
 have HC:=AC hc
 have HB1:=AC hb1
 have HO1:=AC ho1
 have HW1:=AC hW1
 obtain ⟨ip,hip,hpz0,hpz1,hpz2⟩:=info_parts KS
 have HIP:=AC (And.intro hip (And.intro hpz0 (And.intro hpz1 hpz2)))
 clear hok hc hb1 ho1 hW1 hcur hip hpz0 hpz1 hpz2 hPl
 go_enter Tryz.func201,Tryz.ntmps201
 go_wp2_with fail
 refine (AB HCT).mono ?_
 rintro e w0 ⟨rfl,hw0⟩
 subst hw0
 clear HCT
 go_upto_region 2 with fail
 rw [<-AB HW1]
 clear hmk hPi
 go_wp2
 go_loopw [3,9] (fun v i wr=>∃k:Nat,k<=256/\i= .int .i64 k/\Hid (wr.ownsRow w0.heap.size 166 258 v (Dy PS k).length (BG (Dy PS k)))/\Hid (Below w0.heap.size w0 wr)) (fun _ i _=>256-(intOf i).toNat)
 case atStart=>exact ⟨0,by omega,rfl,HO1,HB1⟩
 case round=>
  obtain ⟨k,hk,rfl,HO,HB⟩:=hrel
  by_cases hlt:k<256
  ·have hk0:(0:Int)<=(k:Int):=by omega
   have hk1:(k:Int)<256:=by omega
   have hcr:wr.rangeAt pb so (Af PS):=fun j v hv=>by rw [(AB HB).cell (p:=(pK pb (so+j))) hpl];exact AB HC j v hv
   obtain ⟨hperm,hbytes⟩:=IC (AB HOK) hcr hlt
   have hs:=Hi PS k
   obtain ⟨pm,hpm⟩:∃pm,pm=Cx PS k:=⟨_,rfl⟩
   rw [<-hpm] at hperm
   rcases KG (AB HOK) k with ⟨h1,h2⟩|⟨h1,p,hpp,h2,h3⟩
   ·have HE:=AC (show Dy PS (k+1)=Dy PS k by rw [hs,h2];simp)
    have k0:pm=0:=by omega
    subst k0
    clear hs hpm h1 h2 hcr hbytes
    go_wp2
    refine ⟨⟨k+1,by omega,by simp,?_,HB⟩,by simp only [intOf];omega⟩
    rw [AB HE]
    exact HO
   ·have hpe:=(AB HOK).each p hpp
    have hnum:p.num=(k:Int):=by have:=List.find?_some h2;simpa using this
    have HE:=AC (show Dy PS (k+1)=Dy PS k++[p] by rw [hs,h2];simp)
    have hpb:=hbytes p h2
    have hbl:=hpe.2.2.2.2
    have k0:(pm==0)=false:=by simp;omega
    have hpe3:pm=p.perm:=by omega
    have HNP:=AC (And.intro hnum (And.intro hpe3 hbl))
    obtain ⟨n,hn⟩:∃n,n=(Dy PS k).length:=⟨_,rfl⟩
    obtain ⟨xs,hxs⟩:∃xs,xs=BG (Dy PS k):=⟨_,rfl⟩
    obtain ⟨bs,hbs⟩:∃bs,bs=AJ p.bytes:=⟨_,rfl⟩
    have hnl:n<=256:=by rw [hn];have:=G0 PS k;omega
    rw [<-hn,<-hxs] at HO
    rw [<-hbs] at hpb
    have hbsl:bs.length=256:=by rw [hbs,AM,hbl]
    have RB:=AC (show ∀w',(Instr.build 166 #[(0,.int .i64 (k:Int)),(1,.int .u8 pm),(2,.agg bs.toArray)]).run Tryz.prog w'= .ok (.agg (Av (k:Int) pm p.bytes).toArray) w' from fun w'=>by rw [hbs];exact X6 _ _ _ hbl w')
    obtain ⟨PR,hPR⟩:∃PR,PR=Av (k:Int) pm p.bytes:=⟨_,rfl⟩
    rw [<-hPR] at RB
    have hPRl:PR.length=258:=by rw [hPR,Dr,hbl]
    have hPR1:∀v∈PR,v.oneCell'=true:=by rw [hPR];exact LZ _ _ _
    have HPR:=AC (And.intro hPR (And.intro hPRl hPR1))
    have HEQ:=AC (And.intro hn hxs)
    have HPB:=AC (show wr.cell? (pK pb (so+k*257))=some (.int .u8 pm)/\wr.rangeAt pb (so+k*257+1) bs from ⟨hperm,hpb⟩)
    have hblw:pb<wr.heap.size:=by have:=(AB HB).size;omega
    have R5:=AC (show ∀w':World,(w'.cell? (pK pb (so+k*257))=some (.int .u8 pm)/\w'.rangeAt pb (so+k*257+1) bs)->(Instr.loadAt 164 (pq pb (so+k*257))).run Tryz.prog w'= .ok (.int .u8 pm) w' from fun w' h'=>by
     have d:=h'.1
     clear h' hperm hpb
     go_simp)
    clear hs hpm h1 h2 h3 hcr hbytes hpe hnum hpb hbl hpe3 hpp hn hxs hbs hPR hPRl hPR1
    go_upto_region 7 with fail
    clear hperm k0
    refine BA ?_
    intro A hA
    have e3:A.eval (.tmp 3)=u3:=by rw [hA];rfl
    have e4:A.eval (.tmp 4)= .int .i64 (k:Int):=by rw [hA];rfl
    have e5:A.eval (.tmp 5)= pq pb (so+k*257):=by rw [hA];rfl
    have esz:A.tmps.size=37:=by rw [hA];rfl
    have HA:=AC hA
    clear hA
    refine wp_region_held_drew (S:=fun w'=>w'.cell? (pK pb (so+k*257))=some (.int .u8 pm)/\w'.rangeAt pb (so+k*257+1) bs) (by kernel_rfl) (AB HPB) (fun hS=> ?_)
    refine tk 0 (some 22) rfl rfl (by kernel_rfl) (fun _ _ _=>id) (AK rfl _ rfl u3 (by simp [AF,AE,esz,e3,e4,e5])) hS ?_
    refine tk 1 (some 23) rfl rfl (by kernel_rfl) (fun _ _ _=>id) (AK rfl _ rfl (.int .i64 (k:Int)) (by simp [AF,AE,esz,e3,e4,e5])) hS ?_
    refine tk 2 (some 24) rfl rfl (by kernel_rfl) (fun _ _ _=>id) (AK rfl _ rfl (pq pb (so+k*257)) (by simp [AF,AE,esz,e3,e4,e5])) hS ?_
    refine tk 3 (some 25) rfl rfl (by kernel_rfl) (fun _ _ _=>id) (AX rfl _ rfl (pK pb (so+k*257)) (by simp [AF,AE,esz,e3,e4,e5])) hS ?_
    refine tk 4 (some 26) rfl rfl (by kernel_rfl) (fun _ _ _=>id) (AO rfl _ _ _ rfl (pq pb (so+k*257)) (by simp [AF,AE,esz,e3,e4,e5]) (pq pb (so+k*257)) (fun w'=>by go_simp)) hS ?_
    refine tk 5 (some 27) rfl rfl (by kernel_rfl) (fun _ _ _=>id) (AQ rfl _ _ rfl (pK pb (so+k*257)) (by simp [AF,AE,esz,e3,e4,e5]) (.int .u8 pm) (AB R5)) hS ?_
    refine tk 6 (some 28) rfl rfl (by kernel_rfl) (fun _ _ _=>id) (AK rfl _ rfl (pq pb (so+k*257)) (by simp [AF,AE,esz,e3,e4,e5])) hS ?_
    refine tk 7 (some 29) rfl rfl (by kernel_rfl) (fun _ _ _=>id) (AX rfl _ rfl (pK pb (so+k*257)) (by simp [AF,AE,esz,e3,e4,e5])) hS ?_
    refine tk 8 (some 30) rfl rfl (by kernel_rfl) (fun _ _ _=>id) (AO rfl _ _ _ rfl (pq pb (so+k*257)) (by simp [AF,AE,esz,e3,e4,e5]) (pq pb (so+k*257+1)) (fun w'=>by go_simp)) hS ?_
    refine tk 9 (some 31) rfl rfl (by kernel_rfl) (fun _ _ _=>id) (yieldsIf_load_mid (by simp [Region.wanted]) 136 _ rfl pb (so+k*257+1) (by simp [AF,AE,esz,e3,e4,e5]) bs _ (fun w h=>h.2) Tryz.underlying136 rfl (by rw [Rt,hbsl])) hS ?_
    refine tk 10 (some 32) rfl rfl (by kernel_rfl) (fun _ _ _=>id) (E4 rfl _ _ rfl #[(0,.int .i64 (k:Int)),(1,.int .u8 pm),(2,.agg bs.toArray)] (by simp [AF,AE,esz]) (.agg PR.toArray) (AB RB)) hS ?_
    refine rdy [11] (by kernel_rfl) (AllReadyH.cons rfl (fun K hK=> ?_) AllReadyH.nil)
    refine Gb rfl _ 166 _ rfl PR (by simp [AF,AE,esz]) ip _ Tryz.underlying160 (AB HIP).1 (AB HIP).2.1 (by rw [(AB HIP).2.2.1,(AB HPR).2.1]) (by rw [(AB HPR).2.1];decide) (by rw [(AB HPR).2.1];decide) wr.heap.size rfl (some 33) rfl ?_
    have hb2:Below wr.heap.size wr (wr.drew.alloc (.cells PR.toArray 166)):=by
     have h:=(zw wr.drew.heap.size wr.drew).alloc (zx _) (.cells PR.toArray 166)
     exact ⟨h.os,h.tape,h.output,h.size,h.block⟩
    have hh2:AG (wr.drew.alloc (.cells PR.toArray 166)) wr.heap.size 166 PR:=AG.new wr.drew 166 PR
    have ho2:=BO (AB HO) (AC hb2)
    obtain ⟨W2,hW2⟩:∃W2,W2=wr.drew.alloc (.cells PR.toArray 166):=⟨_,rfl⟩
    rw [<-hW2] at hb2 hh2 ho2 ⊢
    have hS2:W2.cell? (pK pb (so+k*257))=some (.int .u8 pm)/\W2.rangeAt pb (so+k*257+1) bs:=⟨by rw [hb2.cell (p:=(pK pb (so+k*257))) hblw];exact (AB HPB).1,fun j v hv=>by rw [hb2.cell (p:=(pK pb (so+k*257+1+j))) hblw];exact (AB HPB).2 j v hv⟩
    refine hK.out _ _ hS2 (fun hS3=> ?_)
    clear hK K
    refine rdy [12] (by kernel_rfl) (AllReadyH.cons rfl (fun K hK=> ?_) AllReadyH.nil)
    have hs0:=(AB HB).size
    refine step_append_lies _ rfl _ _ 160 rfl w0.heap.size 166 ip _ 258 272 Tryz.underlying160 (AB HIP).1 (AB HIP).2.1 (AB HIP).2.2.1 (AB HIP).2.2.2 (by show C7.toArray.size=258;simp [EH]) (by decide) u3 n xs (by simp [AF,AE,esz,e3]) ho2 (pK wr.heap.size 0) 1 1 PR (by simp [AF,AE,esz]) (by rw [(AB HPR).2.1]) (GH (AC hh2)) (AB HPR).2.2 (by omega) (by unfold maxLen;omega) (by omega) (by have:=hb2.size;omega) W2.heap.size rfl ?_
    intro g8 c8 w8 hown8 hgrow8 hat8 hlt8
    have hne:some pb≠u3.ownBlock:=by
     intro e
     have:=ho2.lt pb e.symm
     omega
    refine hK.out _ _ ⟨hgrow8.cell hS2.1 hne,DQ hS2.2 hgrow8 hne⟩ (fun hS4=> ?_)
    clear hK K
    refine tk 13 (some 3) rfl rfl (by kernel_rfl) (fun _ _ _=>id) (Ct rfl _ rfl (.slice (some (pK g8 0)) (n+1) c8) (by simp [AF,AE,esz])) hS4 ?_
    refine wpAnyH_done (by kernel_rfl) ?_ _
    rw [AB HA]
    simp only [Act.put,zm,zi,zj]
    have HF:=AC (show w8.ownsRow w0.heap.size 166 258 (.slice (some (pK g8 0)) (n+1) c8) (Dy PS (k+1)).length (BG (Dy PS (k+1)))/\Below w0.heap.size w0 w8 from by
     refine ⟨?_,?_⟩
     ·rw [AB HE,zn,Gq,<-(AB HEQ).1,<-(AB HEQ).2,show BG [p]=PR by rw [(AB HPR).1,(AB HNP).2.1,<-(AB HNP).1];simp [BG]]
      exact hown8
     ·have h1:=(AB HB).trans (hb2.mono hs0)
      refine h1.trans ⟨hgrow8.os,hgrow8.tape,hgrow8.output,hgrow8.size,fun q hq=>hgrow8.block q (by have:=h1.size;omega) (fun e=> ?_)⟩
      have:=ho2.lt q e.symm
      omega)
    clear hS hS2 hS3 hS4 hown8 hgrow8 hat8 hlt8 hne hb2 hh2 ho2 hW2 hs0 HA e3 e4 e5 esz RB R5 hblw
    go_wp2
    exact ⟨⟨k+1,by omega,by simp,AC (AB HF).1,AC (AB HF).2⟩,by simp only [intOf];omega⟩
  ·have hke:k=256:=by omega
   subst hke
   go_wp2
   go_ret
   have ho:=AB HO
   rw [JB (AB HOK)] at ho
   exact ⟨_,rfl,ho,AB HB⟩
end
end Go.Proofs.YtdchgbmliojoiaaGreatDoor
