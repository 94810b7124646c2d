import Derived.Test.YtdchgbmliojoiaaGreatDoorG38
set_option maxRecDepth 100000
set_option maxHeartbeats 8000000
set_option linter.unusedVariables false
set_option linter.unusedSimpArgs false
namespace Go.Proofs.YtdchgbmliojoiaaGreatDoor
open Go Go.RowKit Go.Maps
def Tu (p:PK) (i:Nat) (w:World) (e:Ending) (w':World):Prop:=∃v EL,e= .returned v/\GU p w' w.heap.size v EL/\(EL.map Prod.fst).Nodup/\(∀j,j∈EL.map Prod.fst↔Cq p.xs i j)/\Below w.heap.size w w'
structure Ks (p:PK) (i:Nat) (D:DataW Unit) (w:World) (wr:World) (left:Lit->Bool) (v:Value) (EL:List (Nat×BN)) (PR:List Nat):Prop where
 rep:GU p wr (w.heap.size+1) v EL
 nodup:(EL.map Prod.fst).Nodup
 mem:∀j,j∈EL.map Prod.fst↔∃c∈PR,j=c\/Cq p.xs c j
 done:∀j∈PR,Kid p.xs i j/\∀y,p.xs[j]? =some y->left (.string y.name.data.toList)=false
 todo:∀j y,Kid p.xs i j->p.xs[j]? =some y->j∈PR\/left (.string y.name.data.toList)=true
 sub:∀kl,left kl=true->Maps.has D kl=true
 below:Below w.heap.size w wr
 low:w.heap.size<wr.heap.size
theorem Ks.start {p:PK} (hi:Bo p) {i m n:Nat} {D:DataW Unit} {w wr:World} {NB:List Nat} {x:Ino} (hx:p.xs[i]? =some x) (hl:NB.length=p.xs.length) (hf:∀s:ByteArray,D.atKey (.string s.data.toList) .nil=Em (D4 p.xs NB x.id s)) (hb:Below w.heap.size w wr) (hs:w.heap.size<wr.heap.size):Ks p i D w wr (Maps.has D) (.slice none 0 0) [] []:=by
 refine ⟨GU.empty _ _ _,by simp,fun j=>by simp,fun j hj=>absurd hj (by simp),fun j y hk hy=> .inr ?_,fun kl h=>h,hb,hs⟩
 have hjl:=(zy.1 hy).1
 have h1:=hf y.name
 rw [Vi hi hx hy hk hl,zz (by omega)] at h1
 cases hh:Maps.has D (.string y.name.data.toList) with
 |true=>rfl
 |false=>
  rw [Maps.atKey_of_not_has hh] at h1
  cases h1
theorem Ks.fin {p:PK} {i:Nat} {D:DataW Unit} {w wr:World} {left:Lit->Bool} {v:Value} {EL:List (Nat×BN)} {PR:List Nat} (h:Ks p i D w wr left v EL PR) (hl:∀kl,left kl=false):Tu p i w (.returned v) wr:=by
 refine ⟨v,EL,rfl,h.rep.base (by omega),h.nodup,fun j=> ?_,h.below⟩
 rw [h.mem j]
 constructor
 ·rintro ⟨c,hc,rfl|hd⟩
  ·exact .kid (h.done _ hc).1
  ·exact .cons (h.done _ hc).1 hd
 ·intro hd
  obtain ⟨c,hk,hc⟩:=hd.head
  obtain ⟨y,hy⟩:∃y,p.xs[c]? =some y:=⟨_,zz hk.bound.2⟩
  rcases h.todo c y hk hy with q|q
  ·exact ⟨c,q,by rcases hc with e|e;exact .inl e.symm;exact .inr e⟩
  ·rw [hl] at q;cases q
theorem Ks.next {p:PK} (hi:Bo p) {i j:Nat} {D:DataW Unit} {w wr w9:World} {left:Lit->Bool} {v v9:Value} {EL EL2:List (Nat×BN)} {PR:List Nat} {l:BN} {y:Ino} (h:Ks p i D w wr left v EL PR) (hk:Kid p.xs i j) (hy:p.xs[j]? =some y) (hlk:left (.string y.name.data.toList)=true)
  (hn2:(EL2.map Prod.fst).Nodup) (hm2:∀k,k∈EL2.map Prod.fst↔Cq p.xs j k) (hrep:GU p w9 (w.heap.size+1) v9 (EL++[(j,l)]++EL2)) (hb:Below w.heap.size w w9) (hs:w.heap.size<w9.heap.size):Ks p i D w w9 (fun z=>left z&& !z.sameKey (.string y.name.data.toList)) v9 (EL++[(j,l)]++EL2) (j::PR):=by
 have hno:∀c∈PR,c≠j:=fun c hc e=>by
  subst e
  rw [(h.done c hc).2 y hy] at hlk
  cases hlk
 have hse:∀s t:List UInt8,(Lit.string s).sameKey (.string t)=decide (s=t):=fun s t=>by
  by_cases e:s=t
  ·subst e;simp [Lit.sameKey]
  ·simp [Lit.sameKey,e]
 refine ⟨hrep,?_,fun k=> ?_,fun c hc=> ?_,fun c z hc hz=> ?_,fun kl hkl=>h.sub kl (by simp at hkl;exact hkl.1),hb,hs⟩
 ·rw [xt,xt]
  refine List.nodup_append.2 ⟨List.nodup_append.2 ⟨h.nodup,by simp,fun a ha b hb' e=> ?_⟩,hn2,fun a ha b hb' e=> ?_⟩
  ·have:b=j:=by simpa using hb'
   subst this;subst e
   obtain ⟨c,hc,hd⟩:=(h.mem a).1 ha
   exact hno c hc (sib hi (h.done c hc).1 hk hd (.inl rfl))
  ·subst e
   have hd2:=(hm2 a).1 hb'
   rcases List.mem_append.1 ha with ha|ha
   ·obtain ⟨c,hc,hd⟩:=(h.mem a).1 ha
    exact hno c hc (sib hi (h.done c hc).1 hk hd (.inr hd2))
   ·have:a=j:=by simpa using ha
    subst this
    have:=hd2.lt hi
    omega
 ·rw [xt,xt,List.mem_append,List.mem_append,h.mem k,hm2 k]
  constructor
  ·rintro ((⟨c,hc,hd⟩|hj)|hd)
   ·exact ⟨c,by simp [hc],hd⟩
   ·exact ⟨j,by simp,.inl (by simpa using hj)⟩
   ·exact ⟨j,by simp,.inr hd⟩
  ·rintro ⟨c,hc,hd⟩
   rcases List.mem_cons.1 hc with rfl|hc
   ·rcases hd with rfl|hd
    ·exact .inl (.inr (by simp))
    ·exact .inr hd
   ·exact .inl (.inl ⟨c,hc,hd⟩)
 ·rcases List.mem_cons.1 hc with rfl|hc
  ·refine ⟨hk,fun z hz=> ?_⟩
   rw [hy] at hz
   obtain rfl:=zr hz
   simp [hse]
  ·refine ⟨(h.done c hc).1,fun z hz=> ?_⟩
   rw [(h.done c hc).2 z hz]
   rfl
 ·by_cases e:c=j
  ·left;rw [e];simp
  ·rcases h.todo c z hc hz with q|q
   ·left;simp [q]
   ·right
    have hne:z.name.data.toList≠y.name.data.toList:=by
     intro e2
     obtain ⟨a1,b1,c1,d1,e1,f1⟩:=hc
     obtain ⟨a2,b2,c2,d2,e2',f2⟩:=hk
     rw [hz] at d1
     obtain rfl:=zr d1
     rw [hy] at d2
     obtain rfl:=zr d2
     rw [c1] at c2
     obtain rfl:=zr c2
     exact e (Gt hi.incr hz hy (hi.kids z (zv hz) y (zv hy) (by omega) f1 (by rw [ByteArray.toList_eq,ByteArray.toList_eq];exact e2)))
    simp [q,hse,hne]
theorem fP (key:Value) (kl:Lit) (h:keyOf Tryz.prog 9 key=some kl):∃x,key=Value.string x:=by
 obtain ⟨x,rfl,_⟩:=Maps.keyOf_string_inv Tryz.underlying9 h
 exact ⟨x,rfl⟩
theorem dl {x:ByteArray} {kl:Lit} (h:keyOf Tryz.prog 9 (.string x)=some kl):kl= .string x.data.toList:=by
 simp [keyOf,mapKey,Tryz.underlying9] at h
 first|exact h.2.symm|exact h.symm|(obtain ⟨_,h⟩:=h;exact h.symm)
theorem Tv:∀args w,(callFunc 197 args).run Tryz.prog w= .ok (.enter 197 args) w:=enters_of Tryz.func197 (by kernel_rfl) rfl
theorem Vj (s:ByteArray) (d:Bool) (a:Option Addr) (n c:Nat) (w:World):(Instr.build 46 #[(0,.string s),(1,.bool d),(2,.slice a n c)]).run Tryz.prog w= .ok (.agg #[.string s,.bool d,.slice a n c]) w:=by kernel_rfl
theorem Yn (b:Nat) (s:ByteArray) (w:World) (h:w.cell? (pK b 3)=some (.map none)):Calls Tryz.prog 203 #[pq b 0,.string s] w fun e w'=>e= .returned (.slice none 0 0)/\Below w.heap.size w w':=by
 have hr:=run_range_nilMap (P:=Tryz.prog) w 256 9 172 Tryz.underlying256
 have hx:=fun ty=>run_next_nilMap (P:=Tryz.prog) w ty 0 0 #[]
 have HB:=AC (show Below w.heap.size w (w.alloc (.mapIter none 0 #[] 0)) from (zw _ _).alloc (zx _) _)
 go_enter Tryz.func203,Tryz.ntmps203
 go_wp2
 go_loopw [5] (fun v wr=>v= .slice none 0 0/\wr=w.alloc (.mapIter none 0 #[] 0)) (fun _ _=>0)
 case atStart=>exact ⟨rfl,rfl⟩
 case round=>
  obtain ⟨rfl,rfl⟩:=hrel
  go_wp2
  go_ret
  exact ⟨rfl,AB HB⟩
theorem P5 {p:PK} (hi:Bo p):∀(i:Nat) (x:Ino),p.xs[i]? =some x->(Ci p.xs x.id).size<=15*i:=by
 intro i
 induction i using Nat.strongRecOn with
 |ind i ih=>
  intro x hx
  by_cases hx0:x.parent=0
  ·have:=LK hi hx hx0
   have h0:(Ci p.xs x.id).size=0:=by rw [<-ByteArray.size_data,<-xu,this];rfl
   omega
  ·obtain ⟨a,xa,ha,ha1,_,hka⟩:=FQ hi hx hx0
   have h1:=ih a (hka.lt hi) xa ha
   have h2:=hi.tree.names x (zv hx)
   have h3:=hka.lt hi
   rw [J8 hi hx hx0,ByteArray.size_append,ByteArray.size_append,<-ha1]
   have h4:Ey.size=1:=rfl
   omega
theorem Yo:(Tryz.prog.info? 46).map (fun i=>(i.zero,i.size,i.bytes))=some (some (.agg #[.string ByteArray.empty,.bool false,.slice none 0 0]),3,48):=by kernel_rfl
theorem Vk {w:World} {B:Nat} {g n c:Nat} {p:PK} {EL:List (Nat×BN)} (h:w.ownsRow B 46 3 (.slice (some (pK g 0)) n c) n (BT p EL)):∀j u,(BT p EL)[j]? =some u->w.cell? (((pK g 0):Addr).add j)=some u:=fun j u hj=>by
 have hl:=(zy.1 hj).1
 rw [CN,zq,h.cellAt j (by have:=h.1;omega)]
 exact hj
theorem OE (p:PK) (hi:Bo p) (B tb ab am:Nat) (NB MB:List Nat) (V:List Value) (hxl:p.xs.length<=100000) (hcl:∀c∈p.cs,c.length<=1000000):∀(N i:Nat) (x:Ino) (b:Nat) (w:World),BY w B tb ab am p NB MB V->p.xs[i]? =some x->NB[i]? =some b->p.xs.length<=i+N->
  Calls Tryz.prog 203 #[pq b 0,.string (Ci p.xs x.id)] w (Tu p i w)
 |0,i,x,b,w,hr,hx,hb,hN=>by have:=(zy.1 hx).1;omega
 |N+1,i,x,b,w,hr,hx,hb,hN=>by
  have hil:=(zy.1 hx).1
  obtain ⟨m,hm⟩:∃m,MB[i]? =some m:=⟨_,zz (by rw [hr.tree.len.2];exact hil)⟩
  obtain ⟨qn,v0,mv,hn,hd,_,hfl⟩:=hr.tree.node i x b m hx hb hm
  cases hxd:x.dir with
  |false=>
   refine (Yn b (Ci p.xs x.id) w (by rw [<-hfl hxd];exact hn.cell rfl)).mono ?_
   rintro e w' ⟨rfl,hbl⟩
   refine ⟨_,[],rfl,GU.empty _ _ _,by simp,fun j=> ?_,hbl⟩
   constructor
   ·intro h;simp at h
   ·intro h
    obtain ⟨c,hk,_⟩:=h.head
    exact (Ts hi hx hxd hk).elim
  |true=>
  obtain ⟨rfl,D,hD,hf,hkeys⟩:=hd hxd
  have ih:=OE p hi B tb ab am NB MB V hxl hcl N
  clear OE
  have c2:w.cell? (pK b 3)=some (.map (some m)):=hn.cell rfl
  have hml:m<w.heap.size:=hD.lt
  have HIH:=AC ih
  have HR:=AC hr
  have HD:=AC hD
  have HF:=AC (And.intro hf hkeys)
  have HI:=AC hi
  have HX:=AC hx
  have HCL:=AC hcl
  obtain ⟨PA,hPA⟩:∃PA,PA=Ci p.xs x.id:=⟨_,rfl⟩
  rw [<-hPA]
  have HPA:=AC hPA
  obtain ⟨ip,hip,hpz0,hpz1,hpz2⟩:=info_parts Yo
  have HIP:=AC (And.intro hip (And.intro hpz0 (And.intro hpz1 hpz2)))
  have HNN:=AC (And.intro hN hil)
  clear ih hr hn hd hfl hD hf hkeys hx hb hm hxd hcl hi hPA hip hpz0 hpz1 hpz2 hN hil
  go_enter Tryz.func203,Tryz.ntmps203
  go_wp2_with (first|(at_range;refine wpList_range_own _ rfl _ 256 rfl 9 172 Ip Tryz.underlying256 CQ m p.xs.length D rfl (AB HD) ?_;intro w0 hrg0 hg0 hs0)|go_in)
  have HR0:=AC hrg0
  have hb0:Below w.heap.size w w0:=⟨hg0.os,hg0.tape,hg0.output,hg0.size,fun k hk=>hg0.block k hk (by simp)⟩
  have HL0:=AC (Ks.start (m:=0) (n:=0) (AB HI) (AB HX) (AB HR).tree.len.1 (AB HF).1 hb0 (by omega))
  clear hrg0 hg0 hs0 c2 hb0
  go_frame
  go_loopw [5] (fun v wr=>∃(left:Lit->Bool) (cnt:Nat) (EL:List (Nat×BN)) (PR:List Nat),Hid (wr.ranges Tryz.prog 9 CQ m w.heap.size p.xs.length D left cnt)/\Hid (Ks p i D w wr left v EL PR)) (fun _ wr=>wr.rangeLeft m w.heap.size)
  case atStart=>exact ⟨_,_,_,_,HR0,HL0⟩
  case round=>
   obtain ⟨left,cnt,EL,PR,HRG,HLL⟩:=hrel
   go_wp2_with (first
    |(at_next;refine wpList_next_ranges _ rfl _ rfl 9 Ip CQ Value.string CG fP Ux m w.heap.size p.xs.length D left cnt rfl (AB HRG) ?_ ?_)
    |go_in)
   ·intro hc0 hl0
    have HP:=AC ((AB HLL).fin hl0)
    clear hl0 hc0
    go_wp2
    go_ret
    exact AB HP
   intro nm c kl y1 y2 w1 cnt1 hkey hlk hv hat hrg1 hlt hg1 hs1 hen
   have hkl:=dl hkey
   subst hkl
   obtain ⟨s,cb,hks,hfs⟩:=(AB HF).2 _ ((AB HLL).sub _ hlk)
   obtain rfl:=NW (show nm.data.toList=s.data.toList by injection hks)
   have hat':=hat .nil
   rw [(AB HF).1 nm,hfs] at hat'
   obtain rfl:=NY hv hat'.symm
   obtain ⟨j,y,hkid,hy,hyn,hNj⟩:=Vh (AB HI) (AB HX) hfs
   subst hyn
   have hll:=AB HLL
   have hlw:=hll.low
   have hb1:Below w.heap.size w w1:=hll.below.trans ⟨hg1.os,hg1.tape,hg1.output,hg1.size,fun k hk=>hg1.block k (by omega) (by simp;omega)⟩
   have hr1:=(AB HR).below hb1
   have hjl:=hkid.bound.2
   obtain ⟨mj,hmj⟩:∃mj,MB[j]? =some mj:=⟨_,zz (by rw [hr1.tree.len.2];exact hjl)⟩
   obtain ⟨qn,vj,mvj,hnj,_,hVj,_⟩:=hr1.tree.node j y cb mj hy hNj hmj
   obtain ⟨cj,hcj⟩:∃cj,p.cs[j]? =some cj:=⟨_,zz (by rw [(AB HI).len];exact hjl)⟩
   have hcv:=hr1.cont j vj cj hVj hcj
   obtain ⟨va,vc,hvs⟩:=hcv.len
   subst hvs
   have hcjl:=AB HCL cj (zv hcj)
   have hfa:=LL hy hcj
   have hpc:=J8 (AB HI) hy (show y.parent≠0 by obtain ⟨_,y',_,h2,_,h4⟩:=hkid;rw [hy] at h2;obtain rfl:=zr h2;exact h4)
   have hpar:y.parent=x.id:=by obtain ⟨x',y',h1,h2,h3,_⟩:=hkid;rw [hy] at h2;obtain rfl:=zr h2;rw [AB HX] at h1;obtain rfl:=zr h1;exact h3
   rw [hpar,<-AB HPA] at hpc
   obtain ⟨QA,hQA⟩:∃QA,QA=Ci p.xs y.id:=⟨_,rfl⟩
   rw [<-hQA] at hpc hfa
   have HQA:=AC hQA
   have hpq:PA++⟨#[47]⟩++y.name=QA:=by rw [hpc];unfold Ey;rw [ByteArray.append_assoc]
   have hgv:∀k,u5.ownBlock=some k->w.heap.size+1<=k/\k<wr.heap.size:=fun k hk=>hll.rep.row.lt k hk
   have hELl:EL.length<=p.xs.length:=by
    have:=JR (EL.map Prod.fst) (List.range p.xs.length) hll.nodup (fun k hk=>by
     obtain ⟨c,hc,hd⟩:=(hll.mem k).1 hk
     rw [zg]
     rcases hd with rfl|hd
     ·exact (hll.done _ hc).1.bound.2
     ·exact hd.bound)
    simpa using this
   have hrep1:GU p w1 (w.heap.size+1) u5 EL:=by
    refine ⟨hll.rep.row.kept hg1 ?_,fun e he=>(hll.rep.each e he).kept hg1 ?_,hll.rep.apart,hll.rep.own,hll.rep.nil⟩
    ·by_cases hn0:u5.ownBlock=none
     ·exact .inl hn0
     ·obtain ⟨k,hk⟩:=Option.ne_none_iff_exists'.1 hn0
      right
      rw [hk]
      have:=hgv k hk
      simp
      omega
    ·by_cases hn0:(D8 p e).ownBlock=none
     ·exact .inl hn0
     ·obtain ⟨k,hk⟩:=Option.ne_none_iff_exists'.1 hn0
      right
      rw [hk]
      have:=(hll.rep.each e he).lt k hk
      simp
      omega
   have HREP1:=AC hrep1
   have HRG1:=AC hrg1
   have HB1:=AC hb1
   have HR1:=AC hr1
   have HCV:=AC hcv
   have HKID:=AC (And.intro hkid (And.intro hy (And.intro hlk (And.intro hNj hlt))))
   have HFA:=AC hfa
   have HSZ:=AC (show w.heap.size<w1.heap.size/\w1.heap.size=wr.heap.size/\EL.length<=p.xs.length/\cj.length<=1000000 from ⟨by omega,hs1,hELl,hcjl⟩)
   have HCLN:=AC (Tt w1.drew (show FW w1.drew B (.slice va cj.length vc) cj from hcv.block fun R _ _ _=>rfl) hcjl)
   obtain ⟨yd,hyd⟩:∃yd,yd=y.dir:=⟨_,rfl⟩
   obtain ⟨vn,hvn⟩:∃vn,vn=cj.length:=⟨_,rfl⟩
   rw [<-hyd] at hnj
   rw [<-hvn] at hnj
   have hcl:=hnj.lt
   have HS1:=AC (show w1.cell? (pK cb 1)=some (.bool yd)/\w1.cell? (pK cb 2)=some (.slice va vn vc) from ⟨hnj.cell rfl,hnj.cell rfl⟩)
   have HYD:=AC (And.intro hyd hvn)
   have R1:=AC (show ∀w':World,(w'.cell? (pK cb 1)=some (.bool yd)/\w'.cell? (pK cb 2)=some (.slice va vn vc))->(Instr.loadAt 4 (pq cb 1)).run Tryz.prog w'= .ok (.bool yd) w' from fun w' h=>by
    have d:=h.1
    clear h hkey hlk hv hat hrg1 hg1 hen hks hfs hat' hkid hy hNj hll hb1 hr1 hnj hVj hcj hcv hfa hpc hgv hrep1 hQA hpq hyd hvn
    go_simp)
   have R2:=AC (show ∀w':World,(w'.cell? (pK cb 1)=some (.bool yd)/\w'.cell? (pK cb 2)=some (.slice va vn vc))->(Instr.loadAt 32 (pq cb 2)).run Tryz.prog w'= .ok (.slice va vn vc) w' from fun w' h=>by
    have d:=h.2
    clear h hkey hlk hv hat hrg1 hg1 hen hks hfs hat' hkid hy hNj hll hb1 hr1 hnj hVj hcj hcv hfa hpc hgv hrep1 hQA hpq hyd hvn
    go_simp)
   clear hkey hlk hv hat hrg1 hlt hg1 hks hfs hat' hkid hy hNj hll hlw hb1 hr1 hjl hmj hnj hVj hcj hcv hcjl hfa hpc hpar hQA hgv hELl hrep1 hyd hvn hs1
   have hpz1:¬9223372036854775807<PA.size+1:=by have:=P5 (AB HI) i x (AB HX);rw [<-AB HPA] at this;have:=(AB HNN).2;omega
   have hpz2:¬9223372036854775807<PA.size+1+y.name.size:=by have:=P5 (AB HI) i x (AB HX);rw [<-AB HPA] at this;have:=(AB HNN).2;have:=(AB HI).tree.names y (zv (AB HKID).2.1);omega
   unfold CG at hen ⊢
   go_upto_region 6 with fail
   clear hen
   clear hpq hpz1 hpz2
   refine BA ?_
   intro A hA
   have e5:A.eval (.tmp 5)=u5:=by rw [hA];rfl
   have e7:A.eval (.tmp 7)= pq cb 0:=by rw [hA];rfl
   have e8:A.eval (.tmp 8)= .string QA:=by rw [hA];rfl
   have esz:A.tmps.size=43:=by rw [hA];rfl
   have HA:=AC hA
   clear hA
   refine wp_region_held_drew (S:=fun w'=>w'.cell? (pK cb 1)=some (.bool yd)/\w'.cell? (pK cb 2)=some (.slice va vn vc)) (by kernel_rfl) (AB HS1) (fun hS=> ?_)
   refine tk 0 (some 23) rfl rfl (by kernel_rfl) (fun _ _ _=>id) (AK rfl _ rfl u5 (by simp [AF,AE,esz,e5,e7,e8])) hS ?_
   refine tk 1 (some 24) rfl rfl (by kernel_rfl) (fun _ _ _=>id) (AK rfl _ rfl (.string QA) (by simp [AF,AE,esz,e5,e7,e8])) hS ?_
   refine tk 2 (some 25) rfl rfl (by kernel_rfl) (fun _ _ _=>id) (AK rfl _ rfl (pq cb 0) (by simp [AF,AE,esz,e5,e7,e8])) hS ?_
   refine tk 3 (some 26) rfl rfl (by kernel_rfl) (fun _ _ _=>id) (AX rfl _ rfl (pK cb 0) (by simp [AF,AE,esz,e5,e7,e8])) hS ?_
   refine tk 4 (some 27) rfl rfl (by kernel_rfl) (fun _ _ _=>id) (AO rfl _ _ _ rfl (pq cb 0) (by simp [AF,AE,esz,e5,e7,e8]) (pq cb 1) (fun w'=>by go_simp)) hS ?_
   refine tk 5 (some 28) rfl rfl (by kernel_rfl) (fun _ _ _=>id) (AQ rfl _ _ rfl (pK cb 1) (by simp [AF,AE,esz,e5,e7,e8]) (.bool yd) (AB R1)) hS ?_
   refine tk 6 (some 29) rfl rfl (by kernel_rfl) (fun _ _ _=>id) (AK rfl _ rfl (pq cb 0) (by simp [AF,AE,esz,e5,e7,e8])) hS ?_
   refine tk 7 (some 30) rfl rfl (by kernel_rfl) (fun _ _ _=>id) (AX rfl _ rfl (pK cb 0) (by simp [AF,AE,esz,e5,e7,e8])) hS ?_
   refine tk 8 (some 31) rfl rfl (by kernel_rfl) (fun _ _ _=>id) (AO rfl _ _ _ rfl (pq cb 0) (by simp [AF,AE,esz,e5,e7,e8]) (pq cb 2) (fun w'=>by go_simp)) hS ?_
   refine tk 9 (some 32) rfl rfl (by kernel_rfl) (fun _ _ _=>id) (AQ rfl _ _ rfl (pK cb 2) (by simp [AF,AE,esz,e5,e7,e8]) (.slice va vn vc) (AB R2)) hS ?_
   have hclone:=AB HCLN
   rw [<-(AB HYD).2] at hclone
   refine rdy [10] (by kernel_rfl) (AllReadyH.cons rfl (fun K hK=> ?_) AllReadyH.nil)
   refine I2 rfl 197 32 _ rfl (.slice va vn vc) (by simp [AF,AE,esz]) Tv _ (fun e w' h=>by obtain ⟨a,k,h,_⟩:=h;exact ⟨_,h⟩) hclone (some 33) rfl ?_
   rintro r2 w2 ⟨la,lc,hr2,ho2,hb2⟩
   rw [(AB HYD).2] at ho2 hr2
   have hr2:r2= .slice la cj.length lc:=by injection hr2
   subst hr2
   clear hclone
   have hb2:Below w1.heap.size w1 w2:=⟨hb2.os,hb2.tape,hb2.output,hb2.size,hb2.block⟩
   have ho2:w2.ownsRow w1.heap.size 5 1 (.slice la cj.length lc) cj.length (AJ cj):=ho2
   have hS2:w2.cell? (pK cb 1)=some (.bool yd)/\w2.cell? (pK cb 2)=some (.slice va vn vc):=⟨by rw [hb2.cell (p:=(pK cb 1)) hcl];exact (AB HS1).1,by rw [hb2.cell (p:=(pK cb 2)) hcl];exact (AB HS1).2⟩
   refine hK.out _ _ hS2 (fun hS2'=> ?_)
   clear hK K
   obtain ⟨l,hl⟩:∃l:BN,l=⟨la,0,0,lc⟩:=⟨_,rfl⟩
   have hrow:CY p (j,l)=[.string QA,.bool yd,.slice la cj.length lc]:=by unfold CY D8;rw [AB HFA,hl,(AB HYD).1]
   have hval:D8 p (j,l)= .slice la cj.length lc:=by unfold D8;rw [AB HFA,hl]
   obtain ⟨ER,hER⟩:∃ER,ER=CY p (j,l):=⟨_,rfl⟩
   have hERl:ER.length=3:=by rw [hER];rfl
   have hER1:∀v∈ER,v.oneCell'=true:=by rw [hER];exact I6 p _
   refine tk 11 (some 34) rfl rfl (by kernel_rfl) (fun _ _ _=>id) (E4 rfl _ _ rfl #[(0,.string QA),(1,.bool yd),(2,.slice la cj.length lc)] (by simp [AF,AE,esz]) (.agg ER.toArray) (fun w'=>by rw [hER,hrow];exact Vj _ _ _ _ _ w')) hS2 ?_
   refine rdy [12] (by kernel_rfl) (AllReadyH.cons rfl (fun K hK=> ?_) AllReadyH.nil)
   refine Gb rfl _ 46 _ rfl ER (by simp [AF,AE,esz]) ip _ Tryz.underlying24 (AB HIP).1 (AB HIP).2.1 (by rw [(AB HIP).2.2.1,hERl]) (by rw [hERl];decide) (by rw [hERl];decide) w2.heap.size rfl (some 35) rfl ?_
   obtain ⟨W3,hW3⟩:∃W3,W3=w2.alloc (.cells ER.toArray 46):=⟨_,rfl⟩
   rw [<-hW3]
   have hb3:Below w2.heap.size w2 W3:=by rw [hW3];exact (zw _ _).alloc (zx _) _
   have hh3:AG W3 w2.heap.size 46 ER:=by rw [hW3];exact AG.new w2 46 ER
   have hs2:=hb2.size
   have hb13:Below w1.heap.size w1 W3:=hb2.trans (hb3.mono hs2)
   have hS3:W3.cell? (pK cb 1)=some (.bool yd)/\W3.cell? (pK cb 2)=some (.slice va vn vc):=⟨by rw [hb13.cell (p:=(pK cb 1)) hcl];exact (AB HS1).1,by rw [hb13.cell (p:=(pK cb 2)) hcl];exact (AB HS1).2⟩
   refine hK.out _ _ hS3 (fun hS3'=> ?_)
   clear hK K
   have hrep3:=(AB HREP1).below hb13
   obtain ⟨z1,z2,z3,z4⟩:=AB HSZ
   refine rdy [13] (by kernel_rfl) (AllReadyH.cons rfl (fun K hK=> ?_) AllReadyH.nil)
   refine step_append_lies _ rfl _ _ 24 rfl (w.heap.size+1) 46 ip _ 3 48 Tryz.underlying24 (AB HIP).1 (AB HIP).2.1 (AB HIP).2.2.1 (AB HIP).2.2.2 rfl (by decide) u5 EL.length (BT p EL) (by simp [AF,AE,esz,e5]) hrep3.row (pK w2.heap.size 0) 1 1 ER (by simp [AF,AE,esz]) (by rw [hERl]) (GH (AC hh3)) hER1 (by omega) (by unfold maxLen;omega) (by omega) (by have:=hb13.size;omega) W3.heap.size rfl ?_
   intro g8 c8 w8 hown8 hgrow8 hat8 hlt8
   have hgv:∀k,u5.ownBlock=some k->w.heap.size+1<=k/\k<w1.heap.size:=fun k hk=>(AB HREP1).row.lt k hk
   have hcw:cb<w.heap.size:=by
    have h:=(AB HR).tree
    obtain ⟨mj,hmj⟩:∃mj,MB[j]? =some mj:=⟨_,zz (by rw [h.len.2];exact (AB HKID).1.bound.2)⟩
    obtain ⟨qn,_,_,hnj,_⟩:=h.node j y cb mj (AB HKID).2.1 (AB HKID).2.2.2.1 hmj
    exact hnj.lt
   have hne:some cb≠u5.ownBlock:=fun e=>by have:=hgv cb e.symm;omega
   refine hK.out _ _ ⟨hgrow8.cell hS3.1 hne,hgrow8.cell hS3.2 hne⟩ (fun hS4=> ?_)
   clear hK K
   refine tk 14 (some 5) rfl rfl (by kernel_rfl) (fun _ _ _=>id) (Ct rfl _ rfl (.slice (some (pK g8 0)) (EL.length+1) c8) (by simp [AF,AE,esz])) hS4 ?_
   refine wpAnyH_done (by kernel_rfl) ?_ _
   rw [AB HA]
   simp only [Act.put,zm,zi,zj]
   have ho3:=BO ho2 (AC hb3)
   have hrep8:GU p w8 (w.heap.size+1) (.slice (some (pK g8 0)) (EL.length+1) c8) (EL++[(j,l)]):=by
    refine hrep3.app (EL2:=[(j,l)]) (B2:=w1.heap.size) (fun e he=> ?_) (List.pairwise_singleton _ _) (by omega) (fun k hk=>(hgv k hk).2) (fun e he k hk=>((AB HREP1).blk he hk).2) (by simp) ?_ hgrow8 (by rcases hat8 with q|q;exact .inl q;right;omega)
    ·have:e=(j,l):=by simpa using he
     subst this
     rw [hval,AB HFA]
     exact ho3
    ·have:BT p [(j,l)]=ER:=by rw [hER];simp [BT]
     rw [this]
     exact hown8
   have hb8:Below w.heap.size w w8:=(AB HB1).trans (hb13.mono (by omega)|>.trans ⟨hgrow8.os,hgrow8.tape,hgrow8.output,hgrow8.size,fun k hk=>hgrow8.block k (by have:=hb13.size;omega) (fun e=>by have:=hgv k e.symm;omega)⟩)
   have hrg8:=((AB HRG1).kept (A7 hb13) (by simp) (by simp)).kept hgrow8 (fun e=>by have:=hgv m e.symm;omega) (fun e=>by have:=hgv w.heap.size e.symm;omega)
   have hs8:w1.heap.size<=w8.heap.size:=by have:=hb13.size;have:=hgrow8.size;omega
   have HREP8:=AC hrep8
   have HB8:=AC hb8
   have HRG8:=AC hrg8
   have HSZ8:=AC (show w.heap.size<w8.heap.size from by omega)
   have HCH:=AC (AB HIH j y cb w8 ((AB HR).below hb8) (AB HKID).2.1 (AB HKID).2.2.2.1 (by have:=(AB HKID).1.lt (AB HI);have:=(AB HNN).1;omega))
   rw [<-AB HQA] at HCH
   clear hS hS2 hS2' hS3 hS3' hS4 ho2 ho3 hb2 hb3 hb13 hh3 hW3 hs2 hrow hval hER hERl hER1 hrep3 hown8 hgrow8 hat8 hlt8 hgv hne hrep8 hb8 hrg8 hs8 HA e5 e7 e8 esz R1 R2 HCLN HREP1 HCV HS1 hcw hcl z1 z2 z3 z4 hl HRG1
   go_wp2_with fail
   refine (AB HCH).mono ?_
   rintro e w9 ⟨v2,EL2,rfl,hrep2,hnd2,hmem2,hb9⟩
   have hs9:=hb9.size
   have HB9:=AC ((AB HB8).trans (hb9.mono (AB HB8).size))
   have HREP9:=AC ((AB HREP8).below hb9)
   have HRG9:=AC ((AB HRG8).kept (A7 hb9) (by simp) (by simp))
   have HSZ9:=AC (show w.heap.size<w9.heap.size from by have:=AB HSZ8;omega)
   have hkd:=AB HKID
   have hz:=AB HSZ
   by_cases hE:EL2=[]
   ·subst hE
    obtain rfl:=hrep2.nil rfl
    have HAP:=AC (fun ty=>run_append_owned_none w9 (w.heap.size+1) 24 ty 46 ip 3 Tryz.underlying24 (AB HIP).1 _ _ _ (AB HREP9).row)
    have HFN:=AC ((AB HLL).next (AB HI) hkd.1 hkd.2.1 hkd.2.2.1 hnd2 hmem2 (l:=l) (by rw [xz];exact AB HREP9) (AB HB9) (AB HSZ9))
    clear hrep2 hnd2 hmem2 hb9 hs9 hkd hz HCH
    go_wp2_with (at_builtin;refine Lib.wpList_append_run _ rfl _ _ _ _ rfl _ _ rfl rfl _ _ (AB HAP _) ?_)
    exact ⟨⟨_,_,_,_,HRG9,HFN⟩,by rw [(AB HRG9).left_eq,(AB HRG).left_eq];exact (AB HKID).2.2.2.2⟩
   ·have hE0:0<EL2.length:=List.length_pos_iff.2 hE
    obtain ⟨g2,c2,rfl,hg2,hgl2⟩:=hrep2.row.form hE0
    have hE2l:EL2.length<=p.xs.length:=by
     have:=JR (EL2.map Prod.fst) (List.range p.xs.length) hnd2 (fun k hk=>by rw [zg];exact ((hmem2 k).1 hk).bound)
     simpa using this
    have HN2:=AC (And.intro (Vk hrep2.row) (And.intro (Fq p EL2) (Rb p EL2)))
    have HREP2:=AC hrep2
    have HM2:=AC (And.intro hnd2 (And.intro hmem2 hE))
    obtain ⟨E2,hE2⟩:∃E2,E2=EL2.length:=⟨_,rfl⟩
    obtain ⟨ES,hES⟩:∃ES,ES=BT p EL2:=⟨_,rfl⟩
    rw [<-hE2,<-hES] at HN2
    rw [<-hE2] at hE0 hE2l ⊢
    have HE2:=AC (And.intro hE2 hES)
    have hz3:=hz.2.2.1
    have hz1:=AB HSZ9
    have HROW:=AC (show w9.ownsRow (w.heap.size+1) 46 3 (.slice (some (pK g8 0)) (EL.length+1) c8) (EL.length+1) (BT p (EL++[(j,l)])) from by
     have:=(AB HREP9).row
     rwa [show (EL++[(j,l)]).length=EL.length+1 by simp] at this)
    clear hrep2 hnd2 hmem2 hg2 hgl2 hE hE2 hES HCH hkd hz
    go_wp2_with (at_builtin;refine wpList_append_lies _ (by rfl) _ _ 24 (by rfl) (w.heap.size+1) 46 ip _ 3 48 Tryz.underlying24 (AB HIP).1 (AB HIP).2.1 (AB HIP).2.2.1 (AB HIP).2.2.2 rfl (by decide) _ _ _ (by rfl) (AB HROW) (pK g2 0) E2 c2 ES (by rfl) (AB HN2).2.1 (AB HN2).1 (AB HN2).2.2 (by omega) (by unfold maxLen;omega) (by omega) (by omega) w9.heap.size (by rfl) ?_;intro g10 c10 w10 hown10 hgrow10 hat10 hlt10)
    have hgrow10:w9.grownBy w10 (some g8):=hgrow10
    have hg8:w.heap.size+1<=g8/\g8<w8.heap.size:=(AB HREP8).row.lt g8 rfl
    have hrep10:GU p w10 (w.heap.size+1) (.slice (some (pK g10 0)) ((EL++[(j,l)]).length+EL2.length) c10) (EL++[(j,l)]++EL2):=by
     refine (AB HREP9).app (EL2:=EL2) (B2:=w8.heap.size) (AB HREP2).each (AB HREP2).apart (by have:=AB HSZ8;omega) (fun k hk=> ?_) (fun e he k hk=>((AB HREP8).blk he hk).2) (AB HM2).2.2 ?_ hgrow10 (by rcases hat10 with q|q;exact .inl q;right;omega)
     ·have:some g8=some k:=hk
      have e:g8=k:=by simpa using this
      omega
     ·rw [show (EL++[(j,l)]).length=EL.length+1 by simp,<-(AB HE2).1,<-(AB HE2).2]
      exact hown10
    rw [show (EL++[(j,l)]).length=EL.length+1 by simp,<-(AB HE2).1] at hrep10
    have hb10:Below w.heap.size w w10:=(AB HB9).trans (Ag hgrow10 (by omega) (by omega))
    have hkd:=AB HKID
    have HFN:=AC ((AB HLL).next (AB HI) hkd.1 hkd.2.1 hkd.2.2.1 (AB HM2).1 (AB HM2).2.1 (l:=l) hrep10 hb10 (by have:=hgrow10.size;omega))
    have HRG10:=AC ((AB HRG9).kept hgrow10 (by simp;omega) (by simp;omega))
    exact ⟨⟨_,_,_,_,HRG10,HFN⟩,by rw [(AB HRG10).left_eq,(AB HRG).left_eq];exact (AB HKID).2.2.2.2⟩
end Go.Proofs.YtdchgbmliojoiaaGreatDoor
