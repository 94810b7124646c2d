import Derived.Test.YtdchgbmliojoiaaGreatDoorG19
set_option maxRecDepth 100000
set_option maxHeartbeats 1000000
set_option linter.unusedVariables false
set_option linter.unusedSimpArgs false
namespace Go.Proofs.YtdchgbmliojoiaaGreatDoor
open Go Go.RowKit Go.Maps
theorem Jv {s:ByteArray} {l:List ByteArray} (h:Ar s=some l):s.size<=60:=by
 unfold Ar at h
 split at h
 ·cases h
 ·omega
theorem Xt {xs:List Ino} {s:ByteArray} (h:(AN xs s).e=0):s.size<=60:=by
 cases hnm:Ar s with
 |none=>unfold AN at h;rw [hnm] at h;cases h
 |some l=>exact Jv hnm
theorem Xu {s:ByteArray} {a:ByteArray} {r:List ByteArray} (heq:Ar s=some (a::r)):∀m∈a::r,Bc m=true:=by
 unfold Ar at heq
 split at heq
 ·cases heq
 ·split at heq
  ·cases heq
  ·split at heq
   ·rename_i ha
    rw [<-zr heq]
    exact zb.1 ha
   ·cases heq
theorem Pn {xs:List Ino} {s a:ByteArray} {r:List ByteArray} (heq:Ar s=some (a::r)) (h0:(AN xs s).e=0):Bc (AN xs s).name=true/\(AN xs s).n=Ax xs (AN xs s).dir (AN xs s).name/\((AN xs s).dir=1\/∃y∈xs,y.id=(AN xs s).dir/\y.dir=true):=by
 unfold AN at h0 ⊢
 rw [heq] at h0 ⊢
 obtain ⟨x1,x2,x3⟩:=Js (a::r) 1 (by simp) h0
 exact ⟨Xu heq _ x1,x2,x3⟩
theorem Lr {s:ByteArray} (h:Bc s=true):s.size<=14:=by
 unfold Bc at h
 simp only [Bool.and_eq_true,decide_eq_true_eq] at h
 exact h.1.1.1.2
def Sr (w:World) (m:Nat):Prop:=∃es clock,w.heap[m]? =some (.map es clock)
theorem Ao.isMap {w:World} {m n:Nat} {f:ByteArray->Option Nat} (h:Ao w m n f):Sr w m:=by
 obtain ⟨D,⟨es,clock,hb,_⟩,_⟩:=h
 exact ⟨es,clock,hb⟩
def Xv (p:PK) (s:ByteArray) (B tb ab am:Nat) (used:Int) (NB MB:List Nat) (V:List Value) (w:World) (e:Ending) (w':World):Prop:=
 (p.mkdir s).1≠0/\e=Br (p.mkdir s).1/\Below w.heap.size w w'\/(p.mkdir s).1=0/\e= .returned .nilIface/\∃m nb nm,Ba w' B tb ab am p.li p.lb used (p.mkdir s).2.xs (NB++[nb]) (MB++[nm]) (V++[.slice none 0 0])/\Al w w' tb m/\B<=m/\Sr w m
theorem Ss (tb:Nat) (s:ByteArray) (c:Int) (w:World) (HF:Calls Tryz.prog 66 #[pq tb 0,.string s] w fun e w1=>e=Iq c/\Below w.heap.size w w1):
  Calls Tryz.prog 65 #[pq tb 0,.string s] w fun e w'=>e=Br c/\Below w.heap.size w w':=by
 have HFW:=AC HF
 clear HF
 go_enter Tryz.func65,Tryz.ntmps65
 go_wp2_with fail
 refine (AB HFW).mono ?_
 rintro e w1 ⟨rfl,hb1⟩
 have HB:=AC (show Below w.heap.size w (w1.alloc (Obj.cells #[.pointer none,.string ByteArray.empty,.string ByteArray.empty] 178)) from hb1.alloc hb1.size _)
 clear hb1 HFW
 unfold Iq
 go_wp2
 go_ret
 exact ⟨rfl,AB HB⟩
theorem St (p:PK) (B tb ab am:Nat) (used:Int) (NB MB:List Nat) (V:List Value) (s:ByteArray) (mm:Int) (w:World) (hr:Ba w B tb ab am p.li p.lb used p.xs NB MB V) (hi:Bo p) (hlen:p.xs.length<=900000) (hli:0<=p.li/\p.li<=1000000) (hu:0<=used/\used<=p.lb) (hlb:p.lb<=1000000) (hs:s.size<=maxLen) (hm:w.cell? (pK 3 0)=some (.int .i64 mm)) (hml:3<w.heap.size) (hB:B<=w.heap.size):
  Calls Tryz.prog 65 #[pq tb 0,.string s] w (Xv p s B tb ab am used NB MB V w):=by
 have hne:p.xs≠[]:=by obtain ⟨x,hx,_⟩:=hi.root;intro e;rw [e] at hx;cases hx
 have hid:∀x∈p.xs,1<=x.id:=fun x hx=>(hi.ids x hx).1
 have hF:=Fy B tb ab am p.li p.lb used p.xs NB MB V s mm w hr (fun _=>hne) hid hi.incr hs hm hml
 by_cases he:(AN p.xs s).e=0
 ·have hroot:=hr.root hne
  obtain ⟨x0,hx0,hx01,hx0d⟩:=hroot
  have hx0l:=(zy.1 hx0).1
  obtain ⟨b0,hb0⟩:∃b0,NB[0]? =some b0:=⟨_,zz (by rw [hr.len.1];exact hx0l)⟩
  cases hnm:Ar s with
  |none=>unfold AN at he;rw [hnm] at he;cases he
  |some l=>
   cases l with
   |nil=>
    have hw:AN p.xs s=⟨0,ByteArray.empty,1,0⟩:=by unfold AN;rw [hnm]
    have hmk:(p.mkdir s).1=10:=by unfold PK.mkdir;rw [hw];rfl
    refine (Ju tb ab ab am 1 p.xs.length p.li used p.lb _ ByteArray.empty s _ w hr.tree ⟨by omega,by omega⟩ hli hu hlb (by have:=Jv hnm;omega) hr.above rfl hr.amap (by decide) (by decide) (hF.mono fun e w1 h=> ?_)).mono fun e w' h=> ?_
    ·obtain ⟨h1,h2⟩:=h
     refine ⟨?_,h1⟩
     rcases h2 with ⟨q,_⟩|⟨_,b,name,hpl,rfl⟩
     ·exact absurd he q
     ·rcases hpl with ⟨_,rfl,rfl⟩|⟨⟨a,r,q⟩,_⟩
      ·rfl
      ·rw [hnm] at q;cases q
    ·rcases h with ⟨_,h2,h3⟩|⟨h1,_⟩|⟨h1,_⟩
     ·exact .inl ⟨by rw [hmk];decide,by rw [hmk];exact h2,h3⟩
     ·exact absurd h1 (by show ¬(NB[0]? =none);rw [hb0];simp)
     ·exact absurd h1 (by show ¬(NB[0]? =none);rw [hb0];simp)
   |cons a r=>
    obtain ⟨hok,hn,hdir⟩:=Pn (xs:=p.xs) hnm he
    obtain ⟨i,x,hx,hxi,hxd⟩:∃(i:Nat) (x:Ino),p.xs[i]? =some x/\x.id=(AN p.xs s).dir/\x.dir=true:=by
     rcases hdir with q|⟨y,hy,q1,q2⟩
     ·exact ⟨0,x0,hx0,by rw [q];exact hx01,hx0d⟩
     ·obtain ⟨j,hj,hjy⟩:=List.mem_iff_getElem.1 hy
      exact ⟨j,y,by rw [zz hj,hjy],q1,q2⟩
    obtain ⟨hil,hxe⟩:=zy.1 hx
    obtain ⟨b,hb⟩:∃b,NB[i]? =some b:=⟨_,zz (by rw [hr.len.1];exact hil)⟩
    obtain ⟨m,hmm⟩:∃m,MB[i]? =some m:=⟨_,zz (by rw [hr.len.2];exact hil)⟩
    obtain ⟨qn,v,mv,hnode,hkids,_⟩:=hr.node i x b m hx hb hmm
    obtain ⟨hmv,hdict⟩:=hkids hxd
    subst hmv
    obtain ⟨NA,hNA⟩:∃NA,NA=(AN p.xs s).name:=⟨_,rfl⟩
    have hsz:=Lr hok
    rw [<-hNA] at hok hn hsz
    rw [<-hxi] at hn
    refine (Ju tb ab b m p.xs.length p.xs.length p.li used p.lb _ NA s _ w hr.tree ⟨by omega,by omega⟩ hli hu hlb (by have:=Jv hnm;omega) hnode rfl hdict (by omega) (by omega) (hF.mono fun e w1 h=> ?_)).mono fun e w' h=> ?_
    ·obtain ⟨h1,h2⟩:=h
     refine ⟨?_,h1⟩
     rcases h2 with ⟨q,_⟩|⟨_,b',name',hpl,rfl⟩
     ·exact absurd he q
     ·rcases hpl with ⟨q,_⟩|⟨_,⟨j,y,hy,hyi,hyb⟩,_,rfl⟩
      ·rw [hnm] at q;cases q
      ·have hij:i=j:=by
        obtain ⟨hjl,hye⟩:=zy.1 hy
        have hpw:=List.pairwise_iff_getElem.1 hi.incr
        rcases Nat.lt_trichotomy i j with q|q|q
        ·have:=hpw i j hil hjl q;rw [hxe,hye] at this;omega
        ·exact q
        ·have:=hpw j i hjl hil q;rw [hxe,hye] at this;omega
       subst hij
       rw [hb] at hyb
       obtain rfl:=zr hyb
       rw [hNA]
    ·rcases h with ⟨⟨c,h1⟩,h2,h3⟩|⟨h1,h2,h3,h4⟩|⟨h1,h2,h3,nb,nm,y1,y2,y3,y4,y5,y6,y7,y8⟩
     ·have hn0:(AN p.xs s).n≠0:=by
       rw [hn];intro q
       rw [NR hid q] at h1;cases h1
      have hmk:(p.mkdir s).1=10:=by unfold PK.mkdir;rw [if_neg (by simpa using he),if_pos hn0]
      exact .inl ⟨by rw [hmk];decide,by rw [hmk];exact h2,h3⟩
     ·have hn0:(AN p.xs s).n=0:=by
       rw [hn]
       by_cases q:Ax p.xs x.id NA=0
       ·exact q
       ·obtain ⟨_,_,b2,_,_,_,q2⟩:=KY (NB:=NB) hr.len.1 q
        rw [h1] at q2;cases q2
      have hmk:(p.mkdir s).1=12:=by unfold PK.mkdir;rw [if_neg (by simpa using he),if_neg (by simpa using hn0),if_pos h2]
      exact .inl ⟨by rw [hmk];decide,by rw [hmk];exact h3,h4⟩
     ·have hn0:(AN p.xs s).n=0:=by
       rw [hn]
       by_cases q:Ax p.xs x.id NA=0
       ·exact q
       ·obtain ⟨_,_,b2,_,_,_,q2⟩:=KY (NB:=NB) hr.len.1 q
        rw [h1] at q2;cases q2
      have hmk:p.mkdir s=(0,p.add x.id NA true):=by unfold PK.mkdir;rw [if_neg (by simpa using he),if_neg (by simpa using hn0),if_neg (by omega),hxi,hNA]
      refine .inr ⟨by rw [hmk],h3,m,nb,nm,?_,y8,(hr.low.2.2.2.2 m (zv hmm)).1,hdict.isMap⟩
      rw [hmk]
      refine hr.added hx hxd hmm hi.incr h1 y6 y7 y4 (fun _=>⟨rfl,y5⟩) (fun q=>by cases q) y1 y2 y3 y8 (fun z hz=> ?_) ?_ hB
      ·have:=(hi.down z hz).2;have:=(hi.ids z hz).2;omega
      ·have:=(hi.ids x (zv hx)).2;omega
 ·have hmk:(p.mkdir s).1=(AN p.xs s).e:=by unfold PK.mkdir;rw [if_pos he]
  refine (Ss tb s (AN p.xs s).e w (hF.mono fun e w1 h=> ?_)).mono fun e w' h=> .inl ⟨by rw [hmk];exact he,by rw [hmk];exact h.1,h.2⟩
  obtain ⟨h1,h2⟩:=h
  rcases h2 with ⟨_,q⟩|⟨q,_⟩
  ·exact ⟨q,h1⟩
  ·exact absurd q he
theorem A7 {w w':World} (h:Below w.heap.size w w'):w.grownBy w' none:=⟨h.os,h.tape,h.output,h.size,fun k hk _=>h.block k hk⟩
def Su (found create full dir:Bool):Int:=if found=true then (if dir=true then 11 else 0) else if create=false then 9 else if full=true then 12 else 0
def Jw (c:Int):Ending:=if c=0 then .returned .nilIface else Br c
theorem Jb (tb ab b m k:Nat) (n li used lb:Int) (f:ByteArray->Option Nat) (name pth:ByteArray) (create dir:Bool) (dvs:List Value) (w:World) (ht:AG w tb 175 [pq ab 0,.int .i64 n,.int .i64 li,.int .i64 used,.int .i64 lb]) (hn:0<=n/\n<=1000000) (hli:0<=li/\li<=1000000) (hu:0<=used/\used<=lb) (hlb:lb<=1000000) (hdn:AG w b 258 dvs) (hd2:dvs[3]? =some (.map (some m))) (hd:Ao w m k f) (hs:name.size<=100000)
  (hc:∀c,f name=some c->∃v0 vs,AG w c 258 (v0:: .bool dir::vs)):
  Calls Tryz.prog 67 #[pq tb 0,.agg #[pq b 0,.string name,.string pth],.bool create] w fun e w'=>e=Jw (Su (f name).isSome create (decide (li<=n)) dir)/\Below w.heap.size w w':=by
 obtain ⟨W0,hW0⟩:∃W0,W0=w.alloc (Obj.cells #[pq b 0,.string name,.string pth] 178):=⟨_,rfl⟩
 have hb0:Below w.heap.size w W0:=by rw [hW0];exact (zw _ _).alloc (zx _) _
 have hp0:AG W0 w.heap.size 178 [pq b 0,.string name,.string pth]:=by rw [hW0];exact AG.new w 178 _
 have c0:W0.cell? (pK w.heap.size 0)=some (pq b 0):=hp0.cell rfl
 have c1:W0.cell? (pK w.heap.size 1)=some (.string name):=hp0.cell rfl
 have c2:W0.cell? (pK w.heap.size 2)=some (.string pth):=hp0.cell rfl
 have HND:=AC (Hz b m k name pth f W0 (by unfold maxLen;omega) ((hdn.below hb0 hdn.lt).cell hd2) (hd.kept (A7 hb0) (by simp)))
 have HW0:=AC hW0
 have HB0:=AC hb0
 have HT:=AC ht
 have HC:=AC hc
 clear hW0 hb0 hp0 ht hdn hd2 hd hc
 go_enter Tryz.func67,Tryz.ntmps67
 go_upto_region 1 with fail
 rw [<-AB HW0]
 go_wp2_with fail
 refine (AB HND).mono ?_
 rintro e w3 ⟨rfl,hb3⟩
 have HB3:=AC ((AB HB0).trans (hb3.mono (AB HB0).size))
 clear hb3 HND c0 c1 c2
 cases hfn:f name with
 |some c=>
  obtain ⟨v0,vs,hv⟩:=(AB HC) c hfn
  have d0:w3.cell? (pK c 1)=some (.bool dir):=(hv.below (AB HB3) hv.lt).cell rfl
  have HFN:=AC hfn
  clear hfn hv HC
  unfold CG
  cases dir with
  |true=>
   go_wp2
   go_ret
   exact ⟨by rw [AB HFN];rfl,AB HB3⟩
  |false=>
   go_wp2
   go_ret
   exact ⟨by rw [AB HFN];rfl,AB HB3⟩
 |none=>
  have HFN:=AC hfn
  clear hfn HC
  unfold CG
  cases create with
  |false=>
   go_wp2
   go_ret
   exact ⟨by rw [AB HFN];rfl,AB HB3⟩
  |true=>
   have HFL:=AC (Kb tb ab n li used lb w3 ((AB HT).below (AB HB3) (AB HT).lt) hn hli hu hlb)
   go_wp2_with fail
   refine (AB HFL).mono ?_
   rintro e w4 ⟨rfl,_,hb4⟩
   have HB4:=AC ((AB HB3).trans (hb4.mono (AB HB3).size))
   clear hb4 HFL
   obtain ⟨q,hq⟩:∃q,q=decide (li<=n):=⟨_,rfl⟩
   rw [<-hq]
   have HQ:=AC hq
   clear hq
   cases q with
   |true=>
    go_wp2
    go_ret
    exact ⟨by rw [AB HFN,<-AB HQ];rfl,AB HB4⟩
   |false=>
    go_wp2
    go_ret
    exact ⟨by rw [AB HFN,<-AB HQ];rfl,AB HB4⟩
def WR (tb ab m k:Nat) (n li used lb:Int) (f:ByteArray->Option Nat) (name:ByteArray) (w:World) (e:Ending) (w':World):Prop:=
 (∃c,f name=some c/\e= .returned (pq c 0)/\Below w.heap.size w w')\/
  f name=none/\∃nb,e= .returned (pq nb 0)/\w.heap.size<=nb/\nb<w'.heap.size/\(∃q,AG w' nb 258 [.string q,.bool false,.slice none 0 0,.map none,.int .i64 0])/\Qg tb m k ab n li used lb f name nb w w'
theorem Uw (tb ab b m k:Nat) (n li used lb:Int) (f:ByteArray->Option Nat) (name pth:ByteArray) (dvs:List Value) (w:World) (ht:AG w tb 175 [pq ab 0,.int .i64 n,.int .i64 li,.int .i64 used,.int .i64 lb]) (hn:0<=n/\n<=1000000) (hps:pth.size<=100000) (hdn:AG w b 258 dvs) (hd2:dvs[3]? =some (.map (some m))) (hd:Ao w m k f) (hk:k<=1000000) (hs:name.size<=100000):
  Calls Tryz.prog 69 #[pq tb 0,.agg #[pq b 0,.string name,.string pth]] w (WR tb ab m k n li used lb f name w):=by
 obtain ⟨W0,hW0⟩:∃W0,W0=w.alloc (Obj.cells #[pq b 0,.string name,.string pth] 178):=⟨_,rfl⟩
 have hb0:Below w.heap.size w W0:=by rw [hW0];exact (zw _ _).alloc (zx _) _
 have hp0:AG W0 w.heap.size 178 [pq b 0,.string name,.string pth]:=by rw [hW0];exact AG.new w 178 _
 have c0:W0.cell? (pK w.heap.size 0)=some (pq b 0):=hp0.cell rfl
 have c1:W0.cell? (pK w.heap.size 1)=some (.string name):=hp0.cell rfl
 have c2:W0.cell? (pK w.heap.size 2)=some (.string pth):=hp0.cell rfl
 have HND:=AC (Hz b m k name pth f W0 (by unfold maxLen;omega) ((hdn.below hb0 hdn.lt).cell hd2) (hd.kept (A7 hb0) (by simp)))
 have HW0:=AC hW0
 have HB0:=AC hb0
 have HP0:=AC hp0
 have HT:=AC ht
 have HDN:=AC hdn
 have HD:=AC hd
 have HD2:=AC hd2
 clear hW0 hb0 hp0 ht hdn hd2 hd
 go_enter Tryz.func69,Tryz.ntmps69
 go_upto_region 1 with fail
 rw [<-AB HW0]
 go_wp2_with fail
 refine (AB HND).mono ?_
 rintro e w3 ⟨rfl,hb3⟩
 have HB3:=AC ((AB HB0).trans (hb3.mono (AB HB0).size))
 have HP3:=AC ((AB HP0).below hb3 (AB HP0).lt)
 clear hb3 HND c0 c1 c2
 cases hfn:f name with
 |some c=>
  unfold CG
  have HFN:=AC hfn
  clear hfn
  go_wp2
  go_ret
  exact .inl ⟨c,AB HFN,rfl,AB HB3⟩
 |none=>
  unfold CG
  have HFN:=AC hfn
  clear hfn
  have c0:w3.cell? (pK w.heap.size 0)=some (pq b 0):=(AB HP3).cell rfl
  have c1:w3.cell? (pK w.heap.size 1)=some (.string name):=(AB HP3).cell rfl
  have c2:w3.cell? (pK w.heap.size 2)=some (.string pth):=(AB HP3).cell rfl
  go_upto_region 5 with fail
  obtain ⟨W4,hW4⟩:∃W4,W4=w3.alloc (Obj.cells #[.string ⟨#[]⟩,.bool false,.slice none 0 0,.map none,.int .i64 0] 258):=⟨_,rfl⟩
  have hn4:AG W4 w3.heap.size 258 [.string ⟨#[]⟩,.bool false,.slice none 0 0,.map none,.int .i64 0]:=by rw [hW4];exact AG.new w3 258 _
  have hb4:Below w3.heap.size w3 W4:=by rw [hW4];exact (zw _ _).alloc (zx _) _
  rw [<-hW4]
  have hB4:=(AB HB3).trans (hb4.mono (AB HB3).size)
  have hp4:=(AB HP3).below hb4 (AB HP3).lt
  have hl3:=(AB HB3).size
  have hml:m<w.heap.size:=(AB HD).lt
  have htl:tb<w.heap.size:=(AB HT).lt
  obtain ⟨nb,hnb⟩:∃nb,nb=w3.heap.size:=⟨_,rfl⟩
  rw [<-hnb] at hn4 hl3 ⊢
  have hd4:Ao W4 m k f:=(AB HD).kept (A7 hB4) (by simp)
  have hdn4:AG W4 b 258 dvs:=(AB HDN).below hB4 (AB HDN).lt
  have ht4:=(AB HT).below hB4 (AB HT).lt
  have HPU:=AC (Pm tb ab b m k nb n li used lb f name pth _ _ W4 ht4 hn hd4 hk 258 dvs hdn4 (AB HD2) (Aw hdn4 ht4 (by decide)) hn4 (by have:=(AB HDN).lt;omega) hs hps)
  have HN4:=AC hn4
  have HB4:=AC hB4
  have HL:=AC (show w.heap.size<=nb/\m<w.heap.size/\tb<w.heap.size from ⟨hl3,hml,htl⟩)
  clear c0 c1 c2
  have c0:W4.cell? (pK w.heap.size 0)=some (pq b 0):=hp4.cell rfl
  have c1:W4.cell? (pK w.heap.size 1)=some (.string name):=hp4.cell rfl
  have c2:W4.cell? (pK w.heap.size 2)=some (.string pth):=hp4.cell rfl
  clear hW4 hn4 hb4 hB4 hp4 hl3 hml htl hnb hd4 hdn4 ht4
  go_wp2_with fail
  refine (AB HPU).mono ?_
  rintro e w6 ⟨rfl,hp6⟩
  have hl:=AB HL
  have HP:=AC (show WR tb ab m k n li used lb f name w (.returned (pq nb 0)) w6 from .inr ⟨AB HFN,nb,rfl,hl.1,by have:=(AB HN4).lt;have:=hp6.2.2.2.size;omega,⟨_,hp6.2.2.1⟩,hp6.1,hp6.2.1,Bk.toK (AB HB4) hp6.2.2.2 hl.1⟩)
  clear hp6 HPU c0 c1 c2 hl
  go_wp2
  go_ret
  exact AB HP
theorem Ba.empty {w:World} {B tb ab am:Nat} {li lb:Int} (ht:AG w tb 175 [pq ab 0,.int .i64 0,.int .i64 li,.int .i64 0,.int .i64 lb]) (ha:AG w ab 258 [.string ⟨#[]⟩,.bool true,.slice none 0 0,.map (some am),.int .i64 0]) (hd:Ao w am 0 (fun _=>none)) (h1:B<=tb) (h2:B<=ab) (h3:B<=am):Ba w B tb ab am li lb 0 [] [] [] []:=by
 refine ⟨by simpa using ht,ha,(hd.mono (by omega)).same fun s=> ?_,by simp,fun i x b m hx=>by simp at hx,fun h=>absurd rfl h,rfl,by simp,h1,h2,h3,by simp,by simp⟩
 split<;>rfl
theorem Ba.rooted {w:World} {B tb ab am nb nm:Nat} {li lb:Int} (ht:AG w tb 175 [pq ab 0,.int .i64 1,.int .i64 li,.int .i64 0,.int .i64 lb]) (ha:AG w ab 258 [.string ⟨#[]⟩,.bool true,.slice none 0 0,.map (some am),.int .i64 0])
  (hd:Ao w am 1 (fun s=>if s.data.toList=[] then some nb else none)) (hn:∃q,AG w nb 258 [.string q,.bool true,.slice none 0 0,.map (some nm),.int .i64 0]) (hk:Ao w nm 0 (fun _=>none)) (h1:B<=tb) (h2:B<=ab) (h3:B<=am) (h4:B<=nb) (h5:B<=nm) (h6:am≠nm) (h7:ab≠nb):Ba w B tb ab am li lb 0 [Bh 1 0 ByteArray.empty true] [nb] [nm] [.slice none 0 0]:=by
 refine ⟨by simpa using ht,ha,hd,by simp,fun i x b m hx hb hm=> ?_,fun _=>⟨_,rfl,rfl,rfl⟩,rfl,by simp [h6,h7],h1,h2,h3,by simpa using h4,by simpa using ⟨h5,hk.lt⟩⟩
 cases i with
 |succ i=>simp at hx
 |zero=>
  simp at hx hb hm
  subst hx hb hm
  obtain ⟨qn,hn⟩:=hn
  exact ⟨qn,_,_,hn,fun _=>⟨rfl,(hk.mono (by simp)).same fun s=>rfl⟩,rfl,fun q=>by cases q⟩
theorem Iv:Ar ⟨#[47]⟩=some []:=by decide
theorem Xw (li lb mm:Int) (w:World) (hm:w.cell? (pK 3 0)=some (.int .i64 mm)) (hml:3<w.heap.size) (hli:0<=li/\li<=1000000) (hlb:0<=lb/\lb<=1000000):
  Calls Tryz.prog 32 #[.int .i64 li,.int .i64 lb] w fun e w'=>Below w.heap.size w w'/\(li<=0/\e= .returned (.tuple #[.pointer none,.iface 47 (.int .i64 12)])\/0<li/\∃tb ab am nb nm,e= .returned (.tuple #[pq tb 0,.nilIface])/\Ba w' w.heap.size tb ab am li lb 0 [Bh 1 0 ByteArray.empty true] [nb] [nm] [.slice none 0 0]):=by
 have HND:=AC (Kc w)
 have HM:=AC hm
 clear hm
 go_enter Tryz.func32,Tryz.ntmps32
 go_wp2_with fail
 refine (AB HND).mono ?_
 rintro e w1 ⟨rfl,hn1,hd1,hb1⟩
 obtain ⟨W2,hW2⟩:∃W2,W2=w1.alloc (Obj.cells #[pq (w.heap.size+1) 0,.int .i64 0,.int .i64 li,.int .i64 0,.int .i64 lb] 175):=⟨_,rfl⟩
 have ht2:AG W2 w1.heap.size 175 [pq (w.heap.size+1) 0,.int .i64 0,.int .i64 li,.int .i64 0,.int .i64 lb]:=by rw [hW2];exact AG.new w1 175 _
 have hb2:Below w1.heap.size w1 W2:=by rw [hW2];exact (zw _ _).alloc (zx _) _
 have hB2:=hb1.trans (hb2.mono hb1.size)
 have hn2:=hn1.below hb2 hn1.lt
 have hd2:=hd1.kept (A7 hb2) (by simp)
 have hl1:=hb1.size
 have hnl:=hn1.lt
 obtain ⟨tb,htb⟩:∃tb,tb=w1.heap.size:=⟨_,rfl⟩
 rw [<-htb] at ht2 hl1 hnl
 have HMK:=AC (Ju tb (w.heap.size+1) (w.heap.size+1) w.heap.size 0 0 li 0 lb (fun _=>none) ByteArray.empty ⟨#[47]⟩ _ W2 ht2 ⟨by omega,by omega⟩ hli ⟨by omega,hlb.1⟩ hlb.2 (by decide) hn2 rfl hd2 (by omega) (by decide) ((Fy w.heap.size tb (w.heap.size+1) w.heap.size li lb 0 [] [] [] [] ⟨#[47]⟩ mm W2 (Ba.empty ht2 hn2 hd2 (by omega) (by omega) (by omega)) (fun h=>absurd Iv h) (by simp) (by simp) (by decide) (by rw [hB2.cell (p:=(pK 3 0)) hml];exact AB HM) (by have:=hB2.size;omega)).mono fun e w3 h=>⟨by
  rcases h.2 with ⟨q,_⟩|⟨_,b,name,hpl,rfl⟩
  ·exact absurd (show (AN [] ⟨#[47]⟩).e=0 by unfold AN;rw [Iv]) q
  ·rcases hpl with ⟨_,rfl,rfl⟩|⟨⟨a,r,q⟩,_⟩
   ·rfl
   ·rw [Iv] at q;exact absurd q (by simp),h.1⟩))
 have HB2:=AC hB2
 have HN2:=AC hn2
 have HT2:=AC ht2
 have HD2:=AC hd2
 have HL:=AC (show w.heap.size<=tb/\w.heap.size+1<tb from ⟨hl1,hnl⟩)
 have HW2:=AC hW2
 clear hn1 hd1 hb1 hW2 ht2 hb2 hB2 hn2 hd2 hl1 hnl HND
 go_upto_region 2 with fail
 rw [<-AB HW2,<-htb]
 clear HW2 htb
 go_wp2_with fail
 refine (AB HMK).mono ?_
 rintro e w4 (⟨⟨c,h1⟩,_⟩|⟨_,h2,rfl,h4⟩|⟨_,h2,rfl,nb,nm,y1,y2,y3,y4,y5,y6,y7,y8⟩)
 ·cases h1
 ·have HQ:=AC (show Below w.heap.size w w4/\li<=0 from ⟨(AB HB2).trans (h4.mono (AB HB2).size),h2⟩)
  clear h2 h4 HMK
  unfold Br
  go_wp2
  go_ret2
  exact ⟨(AB HQ).1,.inl ⟨(AB HQ).2,rfl⟩⟩
 ·have hl:=AB HL
  have hsz:=(AB HB2).size
  have htl:=(AB HT2).lt
  have hB4:Below w.heap.size w w4:=(AB HB2).trans (y8.below (by omega) (by omega) hsz)
  have HR:=AC (show 0<li/\Below w.heap.size w w4/\Ba w4 w.heap.size tb (w.heap.size+1) w.heap.size li lb 0 [Bh 1 0 ByteArray.empty true] [nb] [nm] [.slice none 0 0] from ⟨h2,hB4,Ba.rooted y6 (Ab (AB HN2) (y8.block _ (AB HN2).lt (by omega) (by omega))) y7 y4 y5 (by omega) (by omega) (by omega) (by omega) (by omega) (by omega) (by omega)⟩)
  clear h2 y1 y2 y3 y4 y5 y6 y7 y8 hl hsz htl hB4 HMK
  go_wp2
  go_ret2
  exact ⟨(AB HR).2.1,.inr ⟨(AB HR).1,tb,_,_,nb,nm,rfl,(AB HR).2.2⟩⟩
theorem Qh (n a b:Int) (w:World):Calls Tryz.prog 63 #[.int .i64 n,.int .i64 a,.int .i64 b] w fun e w'=>e= .returned (.bool (decide (a<=n)&&decide (n<=b)))/\w'=w:=by
 by_cases h1:a<=n
 ·by_cases h2:n<=b
  ·rw [decide_eq_true h1,decide_eq_true h2]
   go_enter Tryz.func63,Tryz.ntmps63
   go_wp2
   go_ret
   exact ⟨rfl,rfl⟩
  ·rw [decide_eq_true h1,decide_eq_false h2]
   go_enter Tryz.func63,Tryz.ntmps63
   go_wp2
   go_ret
   exact ⟨rfl,rfl⟩
 ·rw [decide_eq_false h1]
  go_enter Tryz.func63,Tryz.ntmps63
  go_wp2
  go_ret
  exact ⟨rfl,rfl⟩
theorem Fi (n a b:Int) (q:Bool) (hq:q=(decide (a<=n)&&decide (n<=b))) (w:World):Calls Tryz.prog 63 #[.int .i64 n,.int .i64 a,.int .i64 b] w fun e w'=>e= .returned (.bool q)/\w'=w:=by
 rw [hq];exact Qh n a b w
theorem Oo (lp lf lo li lb:Int) (w:World):Calls Tryz.prog 31 #[.agg #[.int .i64 lp,.int .i64 lf,.int .i64 lo,.int .i64 li,.int .i64 lb]] w fun e w'=>(e= .returned (.bool true)/\Fm lp lf lo li lb\/e= .returned (.bool false)/\¬Fm lp lf lo li lb)/\Below w.heap.size w w':=by
 obtain ⟨W0,hW0⟩:∃W0,W0=w.alloc (Obj.cells #[.int .i64 lp,.int .i64 lf,.int .i64 lo,.int .i64 li,.int .i64 lb] 23):=⟨_,rfl⟩
 have hb0:Below w.heap.size w W0:=by rw [hW0];exact (zw _ _).alloc (zx _) _
 have hp0:AG W0 w.heap.size 23 [.int .i64 lp,.int .i64 lf,.int .i64 lo,.int .i64 li,.int .i64 lb]:=by rw [hW0];exact AG.new w 23 _
 have c0:W0.cell? (pK w.heap.size 0)=some (.int .i64 lp):=hp0.cell rfl
 have c1:W0.cell? (pK w.heap.size 1)=some (.int .i64 lf):=hp0.cell rfl
 have c2:W0.cell? (pK w.heap.size 2)=some (.int .i64 lo):=hp0.cell rfl
 have c3:W0.cell? (pK w.heap.size 3)=some (.int .i64 li):=hp0.cell rfl
 have c4:W0.cell? (pK w.heap.size 4)=some (.int .i64 lb):=hp0.cell rfl
 obtain ⟨q0,h0⟩:∃q,q=(decide (1<=lp)&&decide (lp<=16)):=⟨_,rfl⟩
 obtain ⟨q1,h1⟩:∃q,q=(decide (1<=lf)&&decide (lf<=1000)):=⟨_,rfl⟩
 obtain ⟨q2,h2⟩:∃q,q=(decide (0<=lo)&&decide (lo<=100000)):=⟨_,rfl⟩
 obtain ⟨q3,h3⟩:∃q,q=(decide (0<=li)&&decide (li<=100000)):=⟨_,rfl⟩
 obtain ⟨q4,h4⟩:∃q,q=(decide (0<=lb)&&decide (lb<=100000)):=⟨_,rfl⟩
 have H0:=AC (Fi lp 1 16 q0 h0 W0)
 have H1:=AC (Fi lf 1 1000 q1 h1 W0)
 have H2:=AC (Fi lo 0 100000 q2 h2 W0)
 have H3:=AC (Fi li 0 100000 q3 h3 W0)
 have H4:=AC (Fi lb 0 100000 q4 h4 W0)
 have HE:=AC (show Fm lp lf lo li lb↔(q0&&q1&&q2&&q3&&q4)=true by
  rw [h0,h1,h2,h3,h4];unfold Fm;simp only [Bool.and_eq_true,decide_eq_true_eq];omega)
 have HB0:=AC hb0
 have HW0:=AC hW0
 clear h0 h1 h2 h3 h4 hb0 hW0 hp0
 go_enter Tryz.func31,Tryz.ntmps31
 go_upto_region 1 with fail
 rw [<-AB HW0]
 go_wp2_with fail
 refine (AB H0).mono ?_
 rintro e _ ⟨rfl,rfl⟩
 cases q0 with
 |false=>
  go_wp2
  go_ret
  exact ⟨.inr ⟨rfl,fun h=>by have:=(AB HE).1 h;simp at this⟩,AB HB0⟩
 |true=>
 go_wp2_with fail
 refine (AB H1).mono ?_
 rintro e _ ⟨rfl,rfl⟩
 cases q1 with
 |false=>
  go_wp2
  go_ret
  exact ⟨.inr ⟨rfl,fun h=>by have:=(AB HE).1 h;simp at this⟩,AB HB0⟩
 |true=>
 go_wp2_with fail
 refine (AB H2).mono ?_
 rintro e _ ⟨rfl,rfl⟩
 cases q2 with
 |false=>
  go_wp2
  go_ret
  exact ⟨.inr ⟨rfl,fun h=>by have:=(AB HE).1 h;simp at this⟩,AB HB0⟩
 |true=>
 go_wp2_with fail
 refine (AB H3).mono ?_
 rintro e _ ⟨rfl,rfl⟩
 cases q3 with
 |false=>
  go_wp2
  go_ret
  exact ⟨.inr ⟨rfl,fun h=>by have:=(AB HE).1 h;simp at this⟩,AB HB0⟩
 |true=>
 go_wp2_with fail
 refine (AB H4).mono ?_
 rintro e _ ⟨rfl,rfl⟩
 cases q4 with
 |false=>
  go_wp2
  go_ret
  exact ⟨.inr ⟨rfl,fun h=>by have:=(AB HE).1 h;simp at this⟩,AB HB0⟩
 |true=>
  go_wp2
  go_ret
  exact ⟨.inl ⟨rfl,(AB HE).2 rfl⟩,AB HB0⟩
theorem Qi (tb ab:Nat) (n li used lb:Int) (w:World) (h:AG w tb 175 [pq ab 0,.int .i64 n,.int .i64 li,.int .i64 used,.int .i64 lb]):
  Calls Tryz.prog 164 #[pq tb 0] w fun e w'=>e= .returned (.int .i64 n)/\w'=w:=by
 have c1:w.cell? (pK tb 1)=some (.int .i64 n):=h.cell rfl
 clear h
 go_enter Tryz.func164,Tryz.ntmps164
 go_wp2
 go_ret
 exact ⟨rfl,rfl⟩
theorem Sw (tb ab:Nat) (n li used lb:Int) (w:World) (h:AG w tb 175 [pq ab 0,.int .i64 n,.int .i64 li,.int .i64 used,.int .i64 lb]):
  Calls Tryz.prog 165 #[pq tb 0] w fun e w'=>e= .returned (.int .i64 used)/\w'=w:=by
 have c1:w.cell? (pK tb 3)=some (.int .i64 used):=h.cell rfl
 clear h
 go_enter Tryz.func165,Tryz.ntmps165
 go_wp2
 go_ret
 exact ⟨rfl,rfl⟩
theorem Oq (b:Nat) (a:Option Addr) (n c:Nat) (w:World) (h:w.cell? (pK b 2)=some (.slice a n c)):
  Calls Tryz.prog 72 #[pq b 0] w fun e w'=>e= .returned (.slice a n c)/\w'=w:=by
 go_enter Tryz.func72,Tryz.ntmps72
 go_wp2
 go_ret
 exact ⟨rfl,rfl⟩
end Go.Proofs.YtdchgbmliojoiaaGreatDoor
