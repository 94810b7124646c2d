import Derived.Test.YtdchgbmliojoiaaGreatDoorG06
import Derived.Deep.DeepCutAuto
import Derived.Test.YtdchgbmliojoiaaGreatDoorG07
set_option maxRecDepth 100000
set_option maxHeartbeats 4000000
set_option linter.unusedVariables false
set_option linter.unusedSimpArgs false
namespace Go.Proofs.YtdchgbmliojoiaaGreatDoor
open Go.RowKit
def Aj (num perm:Int) (bytes:List Int):List Value:= .int .i64 num:: .int .i64 perm::AJ bytes
theorem Ai (a b:Int) (L:List Int):(Aj a b L).length=L.length+2:=by simp [Aj,AM]
theorem PW (n:Int) (w:World):(Instr.build 138 #[(0,.int .i64 n),(1,.int .i64 6)]).run Tryz.prog w= .ok (.agg (Aj n 6 Aq).toArray) w:=by kernel_rfl
theorem Kx (old:Value) (w:World):(Instr.alloc 138 true old).run Tryz.prog w= .ok (pq w.heap.size 0) (w.alloc (.cells (Aj 0 0 Aq).toArray 138)):=by kernel_rfl
theorem Mn:(Tryz.prog.info? 138).map (fun i=>(i.zero,i.size,i.bytes))=some (some (.agg (Aj 0 0 Aq).toArray),258,272):=by kernel_rfl
theorem G1:(Tryz.prog.info? 138).map (·.size)=some 258:=by kernel_rfl
theorem Dd (a b:Int) (L:List Int):∀v∈Aj a b L,v.oneCell'=true:=by
 intro v hv
 simp only [Aj,List.mem_cons] at hv
 rcases hv with rfl|rfl|hv
 ·rfl
 ·rfl
 ·obtain ⟨x,_,rfl⟩:=yw.1 hv
  rfl
theorem IX (n:Int) (Z xs:List Int) (h:Z.length=xs.length):splice (Aj n 6 Z) 2 (AJ xs)=Aj n 6 xs:=by
 unfold splice Aj
 have e:(AJ Z).drop (AJ xs).length=[]:=yg (by rw [AM,AM];omega)
 simp only [List.take_succ_cons,List.take_zero,Nat.add_comm 2,List.drop_succ_cons,e,xz]
 rfl
def Di (R:List Int):Nat->List Value
 |0=>[]
 |1=>Aj 254 6 (R.take 256)
 |_=>Aj 254 6 (R.take 256)++Aj 255 6 (R.drop 256)
theorem XA {w:World} {g:Nat} (cs:Array Value):w.grownBy (w.setRow g cs) (some g):=
 ⟨rfl,rfl,rfl,by simp [World.setRow],fun k hk hne=>setRow_other w g k cs (fun e=>hne (by simp [e]))⟩
theorem CK {P:Program} {ops:Array Oper} {rest:List Oper} {o:Oper} {a:Act} {w:World} {Q:Exit->Act->World->Prop} (hgd:o.guard=none) (ty:TypeId) (x y:Operand) (ho:o.op= .store ty x y)
  (g:Nat) (cs:List Value) (hx:a.eval x= pq g 0) (hy:a.eval y= .agg cs.toArray)
  (t:TypeId) (old:List Value) (hg:AG w g t old) (hi:(P.info? ty).map (·.size)=some cs.length) (hold:old.length=cs.length) (h1:∀v∈cs,v.oneCell'=true)
  (h:∀w',Hid (AG w' g t cs)->w.grownBy w' (some g)->wpList P ops Q rest (a.put o.dst undef) w'):wpList P ops Q (o::rest) a w:=by
 refine wpList_store_row hgd ty x y ho g cs.toArray hx hy t old.toArray hg (by simpa using hi) (by simpa using hold) (all_oneCell_toArray h1) ?_
 exact h _ (QG hg cs) (XA _)
def Hn (w:World) (v:Value) (c:List Int):Prop:=c=[]/\v= .slice none 0 0\/c≠[]/\∃q,v= .slice (some (pK q 0)) c.length c.length/\AG w q 5 (AJ c)
def Ch (w:World) (xs:List Ino) (cs:List (List Int)):Prop:=cs.length=xs.length/\∀(i:Nat) (x:Ino) (c:List Int),xs[i]? =some x->cs[i]? =some c->Hn w x.bytes c
theorem Hn.len {w:World} {v:Value} {c:List Int} (h:Hn w v c):∃a d,v= .slice a c.length d:=by
 rcases h with ⟨rfl,h⟩|⟨_,q,h,_⟩
 ·exact ⟨none,0,h⟩
 ·exact ⟨_,_,h⟩
theorem Ch.lens {w:World} {xs:List Ino} {cs:List (List Int)} (h:Ch w xs cs):ZU xs (cs.map List.length):=by
 refine ⟨by rw [zc];exact h.1,fun i x n hx hn=> ?_⟩
 rw [ze] at hn
 obtain ⟨c,hc,rfl⟩:=Option.map_eq_some_iff.1 hn
 exact (h.2 i x c hx hc).len
theorem Hn.frame {w w':World} {v:Value} {c:List Int} {kb g:Nat} (h:Hn w v c) (hf:Al w w' kb g) (h1:∀vs,¬AG w kb 5 vs) (h2:∀vs,¬AG w g 5 vs):Hn w' v c:=by
 rcases h with h|⟨hc,q,hv,hh⟩
 ·exact .inl h
 ·refine .inr ⟨hc,q,hv,?_⟩
  have hl:=hh.lt
  have n1:q≠kb:=fun e=>h1 _ (e▸hh)
  have n2:q≠g:=fun e=>h2 _ (e▸hh)
  unfold AG at hh ⊢
  rw [hf.block q hl n1 n2];exact hh
theorem Ch.frame {w w':World} {xs:List Ino} {cs:List (List Int)} {kb g:Nat} (h:Ch w xs cs) (hf:Al w w' kb g) (h1:∀vs,¬AG w kb 5 vs) (h2:∀vs,¬AG w g 5 vs):Ch w' xs cs:=
 ⟨h.1,fun i x c hx hc=>(h.2 i x c hx hc).frame hf h1 h2⟩
theorem D9.apart {w:World} {base kb g cap:Nat} {k:RK} (h:D9 w base kb g cap k):(∀vs,¬AG w kb 5 vs)/\(∀vs,¬AG w g 5 vs):=by
 refine ⟨fun vs hv=> ?_,fun vs hv=> ?_⟩
 ·have h1:=h.1
  unfold AG at h1 hv
  rw [h1] at hv
  simp at hv
 ·rcases h.2.2 with ⟨h',_⟩|⟨g',cap',cur,h',_,hg,_⟩
  ·simp at h'
  ·simp only [Value.slice.injEq,Option.some.injEq,Addr.mk.injEq,and_true,true_and] at h'
   obtain ⟨rfl,_⟩:=h'
   unfold AG at hv
   rw [hg] at hv
   simp at hv
theorem Ch.add {w:World} {k:RK} {cs:List (List Int)} (h:Ch w k.inos cs) (dir:Int) (name:ByteArray) (is:Bool):Ch w (k.add dir name is).inos (cs++[[]]):=by
 refine ⟨by rw [RK.add];simp [h.1],fun i x c hx hc=> ?_⟩
 have hx':(k.inos++[Bh (k.last+1) dir name is])[i]? =some x:=hx
 rcases Nat.lt_or_ge i k.inos.length with hi|hi
 ·rw [zp hi] at hx'
  rw [zp (by rw [h.1];exact hi)] at hc
  exact h.2 i x c hx' hc
 ·rw [zo hi] at hx'
  rw [zo (by rw [h.1];exact hi)] at hc
  rw [h.1] at hc
  generalize i-k.inos.length=j at hx' hc
  match j,hx',hc with
  |0,hx',hc=>
   have e1:Bh (k.last+1) dir name is=x:=by simpa using hx'
   have e2:[]=c:=by simpa using hc
   subst e1 e2
   exact .inl ⟨rfl,rfl⟩
  |(m+1),hx',_=>simp at hx'
def Ho (k:RK):Prop:=(∀x∈k.inos,x.id<=k.last)/\(∃x∈k.inos,x.id=1)/\1<=k.last
theorem QT {xs:List Ino} {n:Int} (h:∃x∈xs,x.id=n):∃x,xs.find? (fun x=>x.id==n)=some x:=by
 obtain ⟨y,hy,he⟩:=h
 cases hf:xs.find? (fun x=>x.id==n) with
 |some x=>exact ⟨x,rfl⟩
 |none=>
  have:=xv.1 hf y hy
  simp [he] at this
theorem Mu {xs:List Ino}:∀(l:List ByteArray) (dir:Int),(CM xs dir l).e=0->(CM xs dir l).n≠0->∃x∈xs,x.id=(CM xs dir l).n
 |[],dir,_,h=>by simp [CM,DU] at h
 |[a],dir,_,h=>by
  simp only [CM] at h ⊢
  obtain ⟨x,hx⟩:=PZ h
  exact ⟨x,yq hx,by have:=List.find?_some hx;simpa using this⟩
 |a::b::r,dir,h0,h=>by
  unfold CM at h0 h ⊢
  split at h0
  ·simp [DU] at h0
  ·rename_i h1
   rw [if_neg h1] at h ⊢
   split at h0
   ·rename_i h2
    rw [if_pos h2] at h ⊢
    exact Mu (b::r) _ h0 h
   ·simp [DU] at h0
theorem ZV {k:RK} (hi:Ho k) (s:ByteArray) (h0:(AN k.inos s).e=0) (h:(AN k.inos s).n≠0):∃x∈k.inos,x.id=(AN k.inos s).n:=by
 unfold AN at h0 h ⊢
 split at h0
 ·simp [DU] at h0
 ·exact hi.2.1
 ·rename_i a r heq
  rw [heq] at h
  exact Mu (a::r) 1 h0 h
theorem cO (k:RK) (dir:Int) (name:ByteArray) (is:Bool):∃x∈(k.add dir name is).inos,x.id=k.last+1:=⟨Bh (k.last+1) dir name is,by simp [RK.add],rfl⟩
def opened (k:RK) (cs:List (List Int)) (s:ByteArray):RK×List (List Int)×Int:=if (AN k.inos s).n=0 then (k.add (AN k.inos s).dir (AN k.inos s).name false,cs++[[]],k.last+1) else (k,cs,(AN k.inos s).n)
def Ee (c B:List Int):List Int:=B++c.drop B.length
def erase (x:Ino):Ino:={x with bytes:= .slice none 0 0}
theorem QU {k k1:RK} {cs cs1:List (List Int)} {s:ByteArray} {n1:Int} (h:opened k cs s=(k1,cs1,n1)):k1.pv=k.pv/\k1.ov=k.ov/\k1.lb=k.lb/\k1.inos.length<=k.inos.length+1/\(cs1.map List.length).sum=(cs.map List.length).sum:=by
 unfold opened at h
 split at h
 ·simp only [Prod.mk.injEq] at h
  obtain ⟨rfl,rfl,rfl⟩:=h
  refine ⟨rfl,rfl,rfl,by simp [RK.add],by simp⟩
 ·simp only [Prod.mk.injEq] at h
  obtain ⟨rfl,rfl,rfl⟩:=h
  exact ⟨rfl,rfl,rfl,by omega,rfl⟩
theorem XU {k k1:RK} {cs cs1:List (List Int)} {s:ByteArray} {n1:Int} (hi:Ho k) (h0:(AN k.inos s).e=0) (h:opened k cs s=(k1,cs1,n1)):∃x∈k1.inos,x.id=n1:=by
 unfold opened at h
 split at h
 ·simp only [Prod.mk.injEq] at h
  obtain ⟨rfl,rfl,rfl⟩:=h
  exact cO k _ _ _
 ·rename_i hne
  simp only [Prod.mk.injEq] at h
  obtain ⟨rfl,rfl,rfl⟩:=h
  exact ZV hi s h0 hne
theorem SE {w:World} {oa:Option Addr} {c0:List Int} {od:Nat} {z:Array Value} (h:Hn w (.slice oa c0.length od) c0):∀nq,0<(AJ c0).length->∃ad,oa=some ad/\∀j v,(AJ c0)[j]? =some v->((w.drewN nq).alloc (.cells z 5)).cell? (ad.add j)=some v:=by
 intro nq h0
 rcases h with ⟨rfl,_⟩|⟨_,q,hv,hh⟩
 ·simp [AJ] at h0
 ·simp only [Value.slice.injEq] at hv
  obtain ⟨rfl,_,_⟩:=hv
  refine ⟨_,rfl,fun j v hj=> ?_⟩
  rw [CN,zq]
  exact ((hh.heap (W':=w.drewN nq) rfl).alloc _).cell hj
theorem XV {W w6:World} {nq:Nat} {ba:Option Addr} {bb boff:Nat} {B:List Int} (h:ba=some (pK bb boff)) (hb:Below W.heap.size (W.drewN nq) w6) (hlt:bb<W.heap.size) (hv:BC W bb boff B):0<(AJ B).length->(some (pK W.heap.size 0):Option Addr)=some (pK W.heap.size 0)/\∃ad,ba=some ad/\∀j v,(AJ B)[j]? =some v->w6.cell? (ad.add j)=some v:=by
 intro _
 refine ⟨rfl,_,h,fun j v hj=> ?_⟩
 have hl:=(zy.1 hj).1
 rw [AM] at hl
 rw [AT _ _ hl] at hj
 rw [CN,hb.cell (p:=(pK bb (boff+j))) hlt]
 exact (hv j hl).trans hj
theorem cP {c0 B:List Int} {M:Nat} (hM:M=max B.length c0.length):splice (splice (List.replicate M 0) 0 c0) 0 B=Ee c0 B:=by
 unfold splice Ee
 simp only [List.take_zero,yc,zq]
 congr 1
 rw [List.drop_append]
 have:(List.drop c0.length (List.replicate M (0:Int))).drop (B.length-c0.length)=[]:=by
  rw [List.drop_replicate,List.drop_replicate,show M-c0.length-(B.length-c0.length)=0 from by omega];rfl
 rw [this,xz]
theorem G2 {c0 B:List Int} {M:Nat} (hM:M=max B.length c0.length):(Ee c0 B).length=M:=by
 unfold Ee;rw [zn,List.length_drop];omega
theorem Mv:∀(xs:List Ino) (K:Nat) (x:Ino) (v:Value),xs[K]? =some x->(B0 xs).set (K*5+4) v=B0 (xs.set K {x with bytes:=v})
 |[],K,x,v,h=>by simp at h
 |a::r,0,x,v,h=>by
  have e:a=x:=by simpa using h
  subst e
  rfl
 |a::r,K+1,x,v,h=>by
  have ih:=Mv r K x v (by simpa using h)
  have e2:B0 (a::r)=BJ a++B0 r:=by rw [B0,List.flatMap_cons];rfl
  have e3:B0 ((a::r).set (K+1) {x with bytes:=v})=BJ a++B0 (r.set K {x with bytes:=v}):=by rw [zj,B0,List.flatMap_cons];rfl
  rw [e2,e3,List.set_append_right _ _ (by simp [BJ];omega),show (K+1)*5+4-(BJ a).length=K*5+4 from by simp [BJ];omega,ih]
theorem XX {w7:World} {base kb g cap z M K:Nat} {k1:RK} {cs1:List (List Int)} {x:Ino} {c0 B:List Int} (hr:D9 w7 base kb g cap k1) (hc:Ch w7 k1.inos cs1) (hz:AG w7 z 5 (AJ (Ee c0 B))) (hx:k1.inos[K]? =some x) (hB:0<B.length) (hkg:kb≠g) (hl:(Ee c0 B).length=M):
  ∃k':RK,D9 (w7.setCell (pK g (K*5+4)) (.slice (some (pK z 0)) M M)) base kb g cap k'/\Ch (w7.setCell (pK g (K*5+4)) (.slice (some (pK z 0)) M M)) k'.inos (cs1.set K (Ee c0 B))/\k'.inos.map erase=k1.inos.map erase/\{k' with inos:=[]}={k1 with inos:=[]}:=by
 have hK:=(zy.1 hx).1
 have hxe:k1.inos[K]=x:=by rw [zz hK] at hx;exact zr hx
 refine ⟨{k1 with inos:=k1.inos.set K {x with bytes:= .slice (some (pK z 0)) M M}},⟨?_,?_⟩,⟨?_,?_⟩,?_,rfl⟩
 ·have h:=hr.1.set_other (c:=g) hkg (K*5+4) (.slice (some (pK z 0)) M M)
  show AG _ kb _ (RK.cells _ (.slice _ (k1.inos.set K _).length cap))
  rw [yx];exact h
 ·have h:=(hr.2.stored (K*5+4) (.slice (some (pK z 0)) M M)).1
  show World.ownsRow _ base _ 5 (.slice _ (k1.inos.set K _).length cap) (k1.inos.set K _).length (B0 (k1.inos.set K _))
  rw [yx,<-Mv k1.inos K x _ hx];exact h
 ·show (cs1.set K _).length=(k1.inos.set K _).length
  rw [yx,yx];exact hc.1
 ·intro i y c hy hcy
  have hap:=hr.apart
  have hy':(k1.inos.set K {x with bytes:= .slice (some (pK z 0)) M M})[i]? =some y:=hy
  have hfr:Al w7 (w7.setCell (pK g (K*5+4)) (.slice (some (pK z 0)) M M)) kb g:=(Al.refl w7 kb g).grownR (AS (zk w7 (some g)) _ _)
  rw [yy] at hy' hcy
  by_cases hi:K=i
  ·rw [if_pos hi,if_pos hK] at hy'
   rw [if_pos hi,if_pos (by rw [hc.1];exact hK)] at hcy
   obtain rfl:=zr hy'
   obtain rfl:=zr hcy
   refine .inr ⟨fun h=> ?_,z,by rw [hl],?_⟩
   ·have:(Ee c0 B).length=0:=by rw [h];rfl
    unfold Ee at this
    rw [zn] at this;omega
   ·exact hz.set_other (c:=g) (fun e=>hap.2 _ (e▸hz)) _ _
  ·rw [if_neg hi] at hy' hcy
   exact (hc.2 i y c hy' hcy).frame hfr hap.1 hap.2
 ·show (k1.inos.set K _).map erase=k1.inos.map erase
  rw [List.map_set]
  have:erase {x with bytes:= .slice (some (pK z 0)) M M}=(k1.inos.map erase)[K]'(by simpa using hK):=by rw [List.getElem_map,hxe];rfl
  rw [this,List.set_getElem_self]
def IN (o:RK×List (List Int)×Int):List Int:=o.2.1.getD (BK o.1.inos o.2.2).toNat []
def AU (cs:List (List Int)):Nat:=(cs.map List.length).sum
theorem JG {cs:List (List Int)} {K:Nat} {c:List Int} (h:cs[K]? =some c):c.length<=AU cs:=by
 unfold AU
 have hm:c.length∈cs.map List.length:=yw.2 ⟨c,zv h,rfl⟩
 generalize cs.map List.length=l at hm
 induction l with
 |nil=>simp at hm
 |cons a r ih=>
  rw [List.sum_cons]
  rcases List.mem_cons.1 hm with rfl|hm
  ·omega
  ·have:=ih hm;omega
def fileCode (k:RK) (cs:List (List Int)) (s:ByteArray) (B:List Int):Int:=
 if (AN k.inos s).e≠0 then (AN k.inos s).e
 else if (AN k.inos s).n=0/\k.li<=(k.inos.length:Int) then 12
 else if CI (opened k cs s).1.inos (opened k cs s).2.2=true then 11
 else if 0<B.length/\k.lb<(AU (opened k cs s).2.1:Int)-((IN (opened k cs s)).length:Int)+((max B.length (IN (opened k cs s)).length:Nat):Int) then 12 else 0
def FH (k:RK) (cs:List (List Int)) (s:ByteArray) (B:List Int):List (List Int):=
 if B.length=0 then (opened k cs s).2.1 else (opened k cs s).2.1.set (BK (opened k cs s).1.inos (opened k cs s).2.2).toNat (Ee (IN (opened k cs s)) B)
def ZW (base kb g:Nat) (k:RK) (cs:List (List Int)) (s:ByteArray) (B:List Int) (w:World) (e:Ending) (w':World):Prop:=
 e= .returned (.int .i64 (fileCode k cs s B))/\Below kb w w'/\(fileCode k cs s B=0->∃(k':RK) (g' cap':Nat),D9 w' base kb g' cap' k'/\Ch w' k'.inos (FH k cs s B)/\k'.inos.map erase=(opened k cs s).1.inos.map erase/\{k' with inos:=[]}={(opened k cs s).1 with inos:=[]}/\Al w w' kb g/\(g'=g\/w.heap.size<=g'))
theorem QV (base kb g cap:Nat) (k:RK) (cs:List (List Int)) (s:ByteArray) (ba:Option Addr) (bb boff bcap:Nat) (B:List Int) (w:World) (h:D9 w base kb g cap k) (hc:Ch w k.inos cs) (hi:Ho k) (hkb:kb<base) (hbs:base<=w.heap.size) (hn:k.inos.length<=10000) (h1:k.last<=100000) (hs:s.size<=maxLen)
  (hpv:k.pv= .slice none 0 0) (hov:k.ov= .slice none 0 0) (hB:B.length<=1000000) (hcs:(cs.map List.length).sum<=1000000) (hba:0<B.length->ba=some (pK bb boff)) (hbb:0<B.length->bb<kb) (hbv:BC w bb boff B):
  Calls Tryz.prog 41 #[pq kb 0,.string s,.bool false,.slice ba B.length bcap] w fun e w'=>ZW base kb g k cs s B w e w':=by
 have hgb:=h.2.lt g rfl
 have hkl:=h.1.lt
 have hl0:=hi.2.2
 have HW:=AC (IZ kb g cap k.inos s w h.at hkl hgb.2 (by omega) hs)
 have H:=AC h
 have HC:=AC hc
 have HI:=AC hi
 obtain ⟨r,hr⟩:∃r,r=AN k.inos s:=⟨_,rfl⟩
 rw [<-hr] at HW
 have HR:=AC hr
 have HBV:=AC hbv
 clear h hc hi hs hr hbv
 obtain ⟨dir,name,n,e⟩:=r
 unfold MU at HW
 go_enter Tryz.func41,Tryz.ntmps41
 go_wp2_with fail
 refine (AB HW).mono ?_
 rintro e' w1 ⟨rfl,hb1⟩
 have HR1:=AC ((AB H).below hb1)
 have HF1:=AC (Al.ofBelow (a:=kb) (b:=g) hb1)
 have hs1:=hb1.size
 clear hb1 HW
 simp only
 by_cases t1:e=0
 case neg=>
  have g1:(e !=0)=true:=by simpa using t1
  have HE1:=t1
  clear t1
  have HX:=AC (show fileCode k cs s B=e from by unfold fileCode;rw [<-AB HR];exact if_pos HE1)
  go_wp2
  go_ret
  exact ⟨by rw [AB HX];rfl,(AB HF1).below (zx _) (by omega) (by omega),fun h=>absurd ((AB HX).symm.trans h) HE1⟩
 have g1:(e !=0)=false:=by simpa using t1
 have HE:=AC (show (AN k.inos s).e=0 from by rw [<-AB HR];exact t1)
 clear t1
 go_upto_if 34 with fail
 go_cut [11] (fun nv wc=>∃(k1:RK) (cs1:List (List Int)) (n1:Int) (g1 cap1:Nat),nv= .int .i64 n1/\Hid (opened k cs s=(k1,cs1,n1))/\Hid (D9 wc base kb g1 cap1 k1)/\Hid (Ch wc k1.inos cs1)/\Hid (Al w wc kb g)/\(g1=g\/w.heap.size<=g1)/\Hid (¬((AN k.inos s).n=0/\k.li<=(k.inos.length:Int))))
 case first=>
  by_cases t2:n=0
  ·have g2:(n==0)=true:=by simpa using t2
   have HOP:=AC (show opened k cs s=(k.add dir name false,cs++[[]],k.last+1) from by unfold opened;rw [<-AB HR];exact if_pos t2)
   have HN0:=AC (show (AN k.inos s).n=0 from by rw [<-AB HR];exact t2)
   have c3:w1.cell? (pK kb 3)=some (.int .i64 k.li):=(AB HR1).1.cell rfl
   have c7:w1.cell? (pK kb 7)=some (.slice (some (pK g 0)) k.inos.length cap):=(AB HR1).1.cell rfl
   clear t2
   by_cases t3:k.li<=(k.inos.length:Int)
   ·have HX:=AC (show fileCode k cs s B=12 from by unfold fileCode;rw [if_neg (fun h=>h (AB HE)),if_pos ⟨AB HN0,t3⟩])
    go_wp2
    go_quiet (fail)
    go_wp2
    go_ret
    have hbl:=(AB HF1).below (B:=kb) (zx _) (by omega) (by omega)
    exact ⟨by rw [AB HX];rfl,⟨hbl.os,hbl.tape,hbl.output,hbl.size,hbl.block⟩,fun h=>absurd ((AB HX).symm.trans h) (by decide)⟩
   ·go_wp2
    go_quiet (fail)
    have HMK:=AC (Lb base kb g cap k dir name false (w1.drewN nq) ((AB HR1).heap rfl) hkb (by show base<=w1.heap.size;omega) (by omega) (by omega) (by omega))
    go_wp2_with fail
    refine (AB HMK).mono ?_
    rintro e' w2 ⟨rfl,g',cap',hr2,hf2,hg2⟩
    have hf3:Al w w2 kb g:=⟨hf2.os.trans (AB HF1).os,hf2.tape.trans (AB HF1).tape,hf2.output.trans (AB HF1).output,zh (AB HF1).size hf2.size,fun q hq a b=>(hf2.block q (by show q<w1.heap.size;omega) a b).trans ((AB HF1).block q hq a b)⟩
    have HR2:=AC hr2
    have HF2:=AC hf3
    have HC2:=AC (((AB HC).frame hf3 (AB H).apart.1 (AB H).apart.2).add dir name false)
    have hg3:g'=g\/w.heap.size<=g':=by rcases hg2 with h|h;exact .inl h;exact .inr (zh hs1 h)
    have HNL:=AC (show ¬((AN k.inos s).n=0/\k.li<=(k.inos.length:Int)) from fun h=>by (have:=h.2;omega))
    clear hr2 hf2 hg2 hf3
    go_wp2
    go_meet
    case rel=>exact ⟨_,_,_,g',cap',rfl,HOP,HR2,HC2,HF2,hg3,HNL⟩
  ·have g2:(n==0)=false:=by simpa using t2
   have HOP:=AC (show opened k cs s=(k,cs,n) from by unfold opened;rw [<-AB HR];exact if_neg t2)
   have HC2:=AC ((AB HC).frame (AB HF1) (AB H).apart.1 (AB H).apart.2)
   have HNL:=AC (show ¬((AN k.inos s).n=0/\k.li<=(k.inos.length:Int)) from fun h=>t2 (by rw [<-AB HR] at h;exact h.1))
   clear t2
   go_wp2
   go_meet
   case rel=>exact ⟨_,_,_,g,cap,rfl,HOP,HR1,HC2,HF1,.inl rfl,HNL⟩
 case rest=>
  obtain ⟨k1,cs1,n1,g1',cap1,rfl,HOP,HR2,HC2,HF2,hg2,HNL⟩:=hcut
  have hst:=QU (AB HOP)
  obtain ⟨hpv1,hov1,hlb1,hle1,hus1⟩:=hst
  obtain ⟨x,hx⟩:=QT (XU (AB HI) (AB HE) (AB HOP))
  obtain ⟨K,hK,hKx⟩:=Ev hx
  have hKl:=(zy.1 hKx).1
  have hdf:CI k1.inos n1=x.dir:=by unfold CI;rw [hx]
  have hlen1:=(AB HC2).1
  obtain ⟨c0,hc0⟩:∃c,cs1[K]? =some c:=⟨_,zz (by omega)⟩
  have hfa:=(AB HC2).2 K x c0 hKx hc0
  obtain ⟨oa,od,hob⟩:=hfa.len
  have hold:IN (opened k cs s)=c0:=by rw [IN,AB HOP];show cs1.getD (BK k1.inos n1).toNat []=c0;rw [hK,List.getD,Int.toNat_natCast,hc0];rfl
  have HFA:=AC hfa
  have HOLD:=AC hold
  have HKX:=AC (And.intro hKx hc0)
  have HK:=AC hK
  have hkl2:=(AB HR2).1.lt
  have hgb2:=(AB HR2).2.lt g1' rfl
  have hs2:=(AB HF2).size
  have hBel2:Below kb w wc:=(AB HF2).below (zx _) (by omega) (by omega)
  have HB2:=AC hBel2
  have c3:wc.cell? (pK g1' (K*5+3))=some (.bool x.dir):=(AB HR2).at.cell hKx (i:=3) (by omega) rfl
  have c7:wc.cell? (pK kb 7)=some (.slice (some (pK g1' 0)) k1.inos.length cap1):=(AB HR2).1.cell rfl
  have HIN:=AC (Fv kb g1' cap1 k1.inos n1 wc (AB HR2).at (by omega))
  rw [hK] at HIN
  have hK0:(0:Int)<=(K:Int):=by omega
  have hK1:(K:Int)<(k1.inos.length:Int):=by omega
  clear hfa hold hx hBel2
  by_cases td:x.dir=true
  ·rw [td] at c3
   have HX:=AC (show fileCode k cs s B=11 from by
    unfold fileCode
    rw [if_neg (fun h=>h (AB HE)),if_neg (AB HNL),AB HOP]
    exact if_pos (hdf.trans td))
   clear hdf hKx hc0 hob hK td
   go_wp2_with fail
   refine (AB HIN).mono ?_
   rintro e' w3 ⟨rfl,hw3⟩
   subst hw3
   go_wp2
   go_ret
   exact ⟨by rw [AB HX];rfl,AB HB2,fun h=>absurd ((AB HX).symm.trans h) (by decide)⟩
  have td':x.dir=false:=by simpa using td
  rw [td'] at c3
  have HUS:=AC (Ie base kb g1' cap1 k1 [] (cs1.map List.length) none 0 0 wc (AB HR2) ⟨none,0,by rw [hpv1,hpv];rfl,fun i n hh=>by simp at hh⟩ (by rw [hov1,hov]) (AB HC2).lens (by omega) (by simp) (by simp) (by rw [hus1];omega))
  have HFC:=AC (show fileCode k cs s B=if 0<B.length/\k.lb<(AU cs1:Int)-(c0.length:Int)+((max B.length c0.length:Nat):Int) then 12 else 0 from by
   unfold fileCode
   rw [if_neg (fun h=>h (AB HE)),if_neg (AB HNL),AB HOLD,AB HOP]
   exact if_neg (by rw [hdf,td'];decide))
  obtain ⟨U,hU⟩:∃U,U=AU cs1:=⟨_,rfl⟩
  have hU1:U<=1000000:=by rw [hU,AU,hus1];omega
  rw [show (cs1.map List.length).sum=U from hU.symm] at HUS
  rw [<-hU] at HFC
  have hcl:c0.length<=U:=by rw [hU];exact JG hc0
  have HUU:=AC hU
  clear hdf hKx hc0 hK td td' hU hpv1 hov1 hus1
  go_wp2_with fail
  refine (AB HIN).mono ?_
  rintro e' w3 ⟨rfl,hw3⟩
  subst hw3
  go_wp2_with fail
  refine (AB HUS).mono ?_
  rintro e' w4 ⟨rfl,hb4⟩
  simp only [BV,List.length_nil,List.sum_nil]
  obtain ⟨bx,hbx⟩:∃bx,bx=Obj.cells #[.int .i64 0,.int .i64 0,.int .i64 0,.int .i64 (k1.inos.length:Int),.int .i64 (U:Int)] 70:=⟨_,rfl⟩
  have hal:Below w4.heap.size w4 (w4.alloc bx):=(zw _ _).alloc (zx _) _
  have hb5:Below w3.heap.size w3 (w4.alloc bx):=hb4.trans (hal.mono hb4.size)
  have HR5:=AC ((AB HR2).below hb5)
  have HF5:=AC ((AB HF2).step hb5)
  have HC5:=AC ((AB HC2).frame (Al.ofBelow (a:=kb) (b:=g1') hb5) (AB HR2).apart.1 (AB HR2).apart.2)
  have hs5:=hb5.size
  have d7:(w4.alloc bx).cell? (pK kb 7)=some (.slice (some (pK g1' 0)) k1.inos.length cap1):=(AB HR5).1.cell rfl
  have d4:(w4.alloc bx).cell? (pK kb 4)=some (.int .i64 k1.lb):=(AB HR5).1.cell rfl
  have db:(w4.alloc bx).cell? (pK g1' (K*5+4))=some (.slice oa c0.length od):=by rw [<-hob];exact (AB HR5).at.cell (AB HKX).1 (i:=4) (by omega) rfl
  have HBX:=AC hbx
  rw [hbx] at d7 d4 db
  obtain ⟨M,hM⟩:∃M,M=max B.length c0.length:=⟨_,rfl⟩
  rw [<-hM] at HFC
  rw [hlb1] at d4
  have HMM:=AC hM
  have HOB:=AC hob
  have hMb:M<=2000000:=by omega
  clear hbx hal hb4 hb5 HUS HIN c3 c7 HC2 HF2 hob hM
  go_upto_if 76 with fail
  go_cut [16] (fun sv wx=>sv= .int .i64 (M:Int)/\wx=w4.alloc (Obj.cells #[.int .i64 0,.int .i64 0,.int .i64 0,.int .i64 (k1.inos.length:Int),.int .i64 (U:Int)] 70))
  case first=>
   by_cases t5:B.length<c0.length
   ·have e1:=AC (show M=c0.length from by have:=AB HMM;omega)
    go_wp2
    go_meet
    case rel=>exact ⟨by rw [AB e1],rfl⟩
   ·have e1:=AC (show M=B.length from by have:=AB HMM;omega)
    go_wp2
    go_meet
    case rel=>exact ⟨by rw [AB e1],rfl⟩
  case rest=>
   obtain ⟨rfl,rfl⟩:=hcut
   obtain ⟨W,hW⟩:∃W,W=w4.alloc (Obj.cells #[.int .i64 0,.int .i64 0,.int .i64 0,.int .i64 (k1.inos.length:Int),.int .i64 (U:Int)] 70):=⟨_,rfl⟩
   have xb:W.cell? (pK w4.heap.size 4)=some (.int .i64 (U:Int)):=by rw [hW];exact (AG.new w4 70 [.int .i64 0,.int .i64 0,.int .i64 0,.int .i64 (k1.inos.length:Int),.int .i64 (U:Int)]).cell rfl
   rw [AB HBX,<-hW] at HR5 HF5 HC5 hs5
   rw [<-hW] at d7 d4 db
   have HB5:=AC ((AB HF5).below (B:=kb) (zx _) (by omega) (by omega))
   have HWW:=AC hW
   have hWs:w4.heap.size<W.heap.size:=by rw [hW];simp
   rw [<-hW]
   clear hW
   by_cases hb0:0<B.length
   ·by_cases t5:k.lb<(U:Int)-(c0.length:Int)+(M:Int)
    ·have HX:=AC (show fileCode k cs s B=12 from by rw [AB HFC,if_pos ⟨hb0,t5⟩])
     go_wp2
     go_quiet (fail)
     go_wp2
     go_ret
     have hbl:=AB HB5
     exact ⟨by rw [AB HX];rfl,⟨hbl.os,hbl.tape,hbl.output,hbl.size,hbl.block⟩,fun h=>absurd ((AB HX).symm.trans h) (by decide)⟩
    ·have HX:=AC (show fileCode k cs s B=0 from by rw [AB HFC,if_neg (fun h=>t5 h.2)])
     have hbae:=hba hb0
     subst hbae
     have hmk:∀w,(Instr.makeSlice 32 (.int .i64 (M:Int)) (.int .i64 (M:Int))).run Tryz.prog w= .ok (.slice (some (pK w.heap.size 0)) M M) (w.alloc (.cells (Bx M) 5)):=by
      intro w
      have:=run_make_row' (P:=Tryz.prog) 32 5 (.int .u8 0) 1 Tryz.underlying32 Mt rfl .i64 .i64 M (by omega) (by omega) w
      rwa [GF] at this
     have HSRC:=AC (SE (w:=W) (z:=Bx M) (by rw [<-AB HOB];exact (AB HC5).2 K x c0 (AB HKX).1 (AB HKX).2))
     have HBVW:=AC (show BC W bb boff B from fun j hj=>by rw [(AB HB5).cell (p:=(pK bb (boff+j))) (hbb hb0)];exact AB HBV j hj)
     have hmc:c0.length<=M:=by have:=AB HMM;omega
     have hmB:B.length<=M:=by have:=AB HMM;omega
     have hbw:bb<W.heap.size:=by have:=hbb hb0;omega
     go_wp2
     go_quiet (fail)
     have HZ:=AC (show AG ((W.drewN nq).alloc (.cells (Bx M) 5)) W.heap.size 5 (AJ (List.replicate M 0)) from AG.new (W.drewN nq) 5 (AJ (List.replicate M 0)))
     have HZB:=AC (show Below W.heap.size (W.drewN nq) ((W.drewN nq).alloc (.cells (Bx M) 5)) from (show Below (W.drewN nq).heap.size (W.drewN nq) ((W.drewN nq).alloc (.cells (Bx M) 5)) from (zw _ _).alloc (zx _) _))
     have HZS:=AC (AB HSRC nq)
     have hl1:(AJ c0).length=Nat.min c0.length M:=by rw [AM];simp only [Nat.min_def];split<;>omega
     have hl2:0+(AJ c0).length<=(AJ (List.replicate M (0:Int))).length:=by rw [AM,AM];simp;omega
     have hl3:(AJ B).length=Nat.min B.length M:=by rw [AM];simp only [Nat.min_def];split<;>omega
     have hl4:0+(AJ B).length<=(splice (AJ (List.replicate M (0:Int))) 0 (AJ c0)).length:=by rw [BE _ _ _ hl2,AM,AM];simp;omega
     have HL:=AC (And.intro hl1 (And.intro hl2 (And.intro hl3 hl4)))
     clear hl1 hl2 hl3 hl4
     go_wp2_with (first
      |(refine wpList_copy_splice rfl _ _ 32 32 rfl 5 Tryz.underlying32 Le (some (pK W.heap.size 0)) oa M M c0.length od rfl rfl W.heap.size 0 (AJ (List.replicate M 0)) 5 (AB HZ) (AJ c0) (AB HL).1 (fun h0=>⟨rfl,AB HZS h0⟩) (AB HL).2.1 (DM _) W.heap.size (W.drewN nq) (AB HZB) (zx _) ?_
        intro w6 H6 hb6)
      |(refine wpList_copy_splice rfl _ _ 32 32 rfl 5 Tryz.underlying32 Le (some (pK W.heap.size 0)) (some (pK bb boff)) M M B.length bcap rfl rfl W.heap.size 0 (splice (AJ (List.replicate M 0)) 0 (AJ c0)) 5 (AB H6) (AJ B) (AB HL).2.2.1 (XV rfl hb6 hbw (AB HBVW)) (AB HL).2.2.2 (DM _) W.heap.size (W.drewN nq) hb6 (zx _) ?_
        intro w7 H7 hb7
        have hr7:=((AB HR5).heap (w':=W.drewN nq) rfl).below hb7
        have y7:w7.cell? (pK kb 7)=some (.slice (some (pK g1' 0)) k1.inos.length cap1):=hr7.1.cell rfl
        have y4:w7.cell? (pK g1' (K*5+4))=some x.bytes:=hr7.at.cell (AB HKX).1 (i:=4) (by omega) rfl
        have yf:=hr7.2.frozenAt (K*5+4)
        have HR7:=AC hr7
        have HB7:=AC hb7
        clear hr7 hb7))
     have hz:AG w7 W.heap.size 5 (AJ (Ee c0 B)):=by
      have h:=AB H7
      rw [B4,B4,cP (AB HMM)] at h
      exact h
     have hc7:Ch w7 k1.inos cs1:=(show Ch (W.drewN nq) k1.inos cs1 from AB HC5).frame (Al.ofBelow (a:=kb) (b:=g1') (show Below (W.drewN nq).heap.size (W.drewN nq) w7 from AB HB7)) (fun vs h=>(AB HR5).apart.1 vs (h.heap rfl)) (fun vs h=>(AB HR5).apart.2 vs (h.heap rfl))
     obtain ⟨k',q1,q2,q3,q4⟩:=XX (AB HR7) hc7 hz (AB HKX).1 hb0 (by omega) (G2 (AB HMM))
     have hfr:Al w w7 kb g:=((show Al w (W.drewN nq) kb g from ⟨(AB HF5).os,(AB HF5).tape,(AB HF5).output,(AB HF5).size,(AB HF5).block⟩)).step (show Below (W.drewN nq).heap.size (W.drewN nq) w7 from AB HB7)
     have hfr2:=hfr.trans (b':=g1') ((Al.refl w7 kb g1').grownR (AS (zk w7 (some g1')) (K*5+4) (.slice (some (pK W.heap.size 0)) M M))) hg2
     have hcs':FH k cs s B=cs1.set K (Ee c0 B):=by
      unfold FH
      rw [if_neg (by omega),AB HOLD,AB HOP]
      show cs1.set (BK k1.inos n1).toNat _=_
      rw [AB HK,Int.toNat_natCast]
     go_ret
     exact ⟨by rw [AB HX];rfl,hfr2.below (zx _) (by omega) (by omega),fun _=>⟨k',g1',cap1,q1,by rw [hcs'];exact q2,by rw [AB HOP];exact q3,by rw [AB HOP];exact q4,hfr2,hg2⟩⟩
   ·have hB0:B.length=0:=by omega
    have hBn:B=[]:=List.eq_nil_of_length_eq_zero hB0
    subst hBn
    have HX:=AC (show fileCode k cs s []=0 from by rw [AB HFC,if_neg (fun h=>by have:=h.1;simp at this)])
    have hmk:∀w,(Instr.makeSlice 32 (.int .i64 (M:Int)) (.int .i64 (M:Int))).run Tryz.prog w= .ok (.slice (some (pK w.heap.size 0)) M M) (w.alloc (.cells (Bx M) 5)):=by
     intro w
     have:=run_make_row' (P:=Tryz.prog) 32 5 (.int .u8 0) 1 Tryz.underlying32 Mt rfl .i64 .i64 M (by omega) (by omega) w
     rwa [GF] at this
    have HSRC:=AC (SE (w:=W) (z:=Bx M) (by rw [<-AB HOB];exact (AB HC5).2 K x c0 (AB HKX).1 (AB HKX).2))
    have hmc:c0.length<=M:=by have:=AB HMM;omega
    simp only [List.length_nil] at*
    go_wp2
    go_quiet (fail)
    have HZ:=AC (show AG ((W.drewN nq).alloc (.cells (Bx M) 5)) W.heap.size 5 (AJ (List.replicate M 0)) from AG.new (W.drewN nq) 5 (AJ (List.replicate M 0)))
    have HZB:=AC (show Below W.heap.size (W.drewN nq) ((W.drewN nq).alloc (.cells (Bx M) 5)) from (show Below (W.drewN nq).heap.size (W.drewN nq) ((W.drewN nq).alloc (.cells (Bx M) 5)) from (zw _ _).alloc (zx _) _))
    have HZS:=AC (AB HSRC nq)
    have hl1:(AJ c0).length=Nat.min c0.length M:=by rw [AM];simp only [Nat.min_def];split<;>omega
    have hl2:0+(AJ c0).length<=(AJ (List.replicate M (0:Int))).length:=by rw [AM,AM];simp;omega
    have HL:=AC (And.intro hl1 hl2)
    clear hl1 hl2
    go_wp2_with (first
      |(refine wpList_copy_splice rfl _ _ 32 32 rfl 5 Tryz.underlying32 Le (some (pK W.heap.size 0)) oa M M c0.length od rfl rfl W.heap.size 0 (AJ (List.replicate M 0)) 5 (AB HZ) (AJ c0) (AB HL).1 (fun h0=>⟨rfl,AB HZS h0⟩) (AB HL).2 (DM _) W.heap.size (W.drewN nq) (AB HZB) (zx _) ?_
        intro w6 H6 hb6)
      |(refine wpList_copy_nothing rfl _ _ 32 32 rfl 5 Tryz.underlying32 Le (some (pK W.heap.size 0)) ba M M 0 bcap rfl rfl (by simp) ?_))
    have hc6:Ch w6 k1.inos cs1:=(show Ch (W.drewN nq) k1.inos cs1 from AB HC5).frame (Al.ofBelow (a:=kb) (b:=g1') (show Below (W.drewN nq).heap.size (W.drewN nq) w6 from hb6)) (fun vs h=>(AB HR5).apart.1 vs (h.heap rfl)) (fun vs h=>(AB HR5).apart.2 vs (h.heap rfl))
    have hr6:D9 w6 base kb g1' cap1 k1:=((AB HR5).heap (w':=W.drewN nq) rfl).below hb6
    have hfr:Al w w6 kb g:=((show Al w (W.drewN nq) kb g from ⟨(AB HF5).os,(AB HF5).tape,(AB HF5).output,(AB HF5).size,(AB HF5).block⟩)).step (show Below (W.drewN nq).heap.size (W.drewN nq) w6 from hb6)
    have hcs':FH k cs s []=cs1:=by
     unfold FH
     rw [if_pos List.length_nil,AB HOP]
    go_ret
    exact ⟨by rw [AB HX];rfl,hfr.below (zx _) (by omega) (by omega),fun _=>⟨k1,g1',cap1,hr6,by rw [hcs'];exact hc6,by rw [AB HOP],by rw [AB HOP],hfr,hg2⟩⟩
theorem SF (base kb g cap:Nat) (k:RK) (s:ByteArray) (bv:Value) (w:World) (h:D9 w base kb g cap k) (hkb:kb<base) (hbs:base<=w.heap.size) (hn:k.inos.length<=100000) (h0:0<=k.last) (h1:k.last<=1000000) (hs:s.size<=maxLen):
  Calls Tryz.prog 41 #[pq kb 0,.string s,.bool true,bv] w fun e w'=>e= .returned (.int .i64 (CW k s).1)/\∃g' cap',D9 w' base kb g' cap' (CW k s).2/\Al w w' kb g/\(g'=g\/w.heap.size<=g'):=by
 have HM:=AC (QP base kb g cap k s w h hkb hbs hn h0 h1 hs)
 clear h hs
 go_enter Tryz.func41,Tryz.ntmps41
 go_wp2_with fail
 refine (AB HM).mono ?_
 rintro e w1 ⟨rfl,hr⟩
 have HR:=AC hr
 clear hr
 go_wp2
 go_ret
 exact ⟨rfl,AB HR⟩
theorem Ho.add {k:RK} (h:Ho k) (dir:Int) (name:ByteArray) (is:Bool):Ho (k.add dir name is):=by
 obtain ⟨h1,⟨x,hx,he⟩,h2⟩:=h
 refine ⟨fun y hy=> ?_,⟨x,by simp [RK.add,hx],he⟩,by show 1<=k.last+1;omega⟩
 have hy':y∈k.inos++[Bh (k.last+1) dir name is]:=hy
 rcases List.mem_append.1 hy' with h|h
 ·have:=h1 y h;show y.id<=k.last+1;omega
 ·obtain rfl:=List.mem_singleton.1 h
  exact Int.le_refl _
theorem Ho.mkdir {k:RK} (h:Ho k) (s:ByteArray):Ho (CW k s).2:=by
 unfold CW
 split
 ·exact h
 split
 ·exact h
 split
 ·exact h
 ·exact h.add _ _ _
theorem Ho.opened {k k1:RK} {cs cs1:List (List Int)} {s:ByteArray} {n1:Int} (h:Ho k) (ho:opened k cs s=(k1,cs1,n1)):Ho k1:=by
 unfold Go.Proofs.YtdchgbmliojoiaaGreatDoor.opened at ho
 split at ho
 ·simp only [Prod.mk.injEq] at ho
  obtain ⟨rfl,_,_⟩:=ho
  exact h.add _ _ _
 ·simp only [Prod.mk.injEq] at ho
  obtain ⟨rfl,_,_⟩:=ho
  exact h
theorem Ho.same {k k':RK} (h:Ho k) (he:k'.inos.map erase=k.inos.map erase) (hl:k'.last=k.last):Ho k':=by
 have hid:∀(a b:List Ino),a.map erase=b.map erase->a.map (·.id)=b.map (·.id):=fun a b e=>by
  have:=congrArg (List.map (fun x:Ino=>x.id)) e
  rw [List.map_map,List.map_map] at this
  exact this
 have hm:=hid _ _ he
 obtain ⟨h1,⟨x,hx,hxe⟩,h2⟩:=h
 refine ⟨fun y hy=> ?_,?_,by omega⟩
 ·have:y.id∈k.inos.map (·.id):=by rw [<-hm];exact yw.2 ⟨y,hy,rfl⟩
  obtain ⟨z,hz,hze⟩:=yw.1 this
  have:=h1 z hz
  omega
 ·have:x.id∈k'.inos.map (·.id):=by rw [hm];exact yw.2 ⟨x,hx,rfl⟩
  obtain ⟨z,hz,hze⟩:=yw.1 this
  exact ⟨z,hz,by rw [hze,hxe]⟩
end Go.Proofs.YtdchgbmliojoiaaGreatDoor
