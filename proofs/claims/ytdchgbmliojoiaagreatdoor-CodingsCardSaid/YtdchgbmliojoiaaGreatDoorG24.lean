import Derived.Test.YtdchgbmliojoiaaGreatDoorG22
import Derived.Test.YtdchgbmliojoiaaGreatDoorG23
set_option maxRecDepth 100000
set_option maxHeartbeats 1000000
set_option linter.unusedVariables false
set_option linter.unusedSimpArgs false
namespace Go.Proofs.YtdchgbmliojoiaaGreatDoor
section
open Go.RowKit
structure Cz (w:World) (fb foff:Nat) (FZ:List AV) (LS:List BN):Prop where
 len:LS.length=FZ.length
 at_:∀(i:Nat) (f:AV) (l:BN),FZ[i]? =some f->LS[i]? =some l->w.cell? (pK fb (foff+i*3))=some (.string f.path)/\w.cell? (pK fb (foff+i*3+1))=some (.bool f.dir)/\w.cell? (pK fb (foff+i*3+2))=some (.slice l.a f.bytes.length l.c)/\(0<f.bytes.length->l.a=some (pK l.q l.o)/\l.q<w.heap.size)/\BC w l.q l.o f.bytes
theorem Cz.in {w:World} {fb foff:Nat} {FZ:List AV} {LS:List BN} (h:Cz w fb foff FZ LS):WU w fb foff FZ:=by
 have hl:∀(i:Nat) (f:AV),FZ[i]? =some f->∃l,LS[i]? =some l:=fun i f hf=>⟨_,zz (by rw [h.len];exact (zy.1 hf).1)⟩
 refine ⟨fun i f hf=> ?_,fun i f hf=> ?_,fun i f hf=> ?_⟩
 ·obtain ⟨l,hl⟩:=hl i f hf;exact (h.at_ i f l hf hl).1
 ·obtain ⟨l,hl⟩:=hl i f hf;exact (h.at_ i f l hf hl).2.1
 ·obtain ⟨l,hl⟩:=hl i f hf
  obtain ⟨_,_,a,b,c⟩:=h.at_ i f l hf hl
  exact ⟨l.a,l.q,l.o,l.c,a,b,c⟩
def F3 (FZ:List AV) (n:Nat):List Value:=(FZ.take n).map (fun f=> .string f.path)
def H9 (FZ:List AV) (n:Nat):List Value:=(FZ.take n).map (fun f=> .bool f.dir)
def F4 (FZ:List AV) (LS:List BN) (n:Nat):List Value:=((FZ.zip LS).take n).map (fun x=> .slice x.2.a x.1.bytes.length x.2.c)
def IA (f:AV) (r:Nat):List Value:=[.string f.path,.bool f.dir,.slice (some (pK r 0)) f.bytes.length (f.bytes.length+2)]
def Dn (FZ:List AV) (RS:List Nat) (n:Nat):List Value:=((FZ.zip RS).take n).flatMap (fun x=>IA x.1 x.2)
theorem Qn {FZ:List AV} {n:Nat} {f:AV} (h:FZ[n]? =some f):F3 FZ (n+1)=F3 FZ n++[.string f.path]:=by
 unfold F3;rw [List.take_add_one,h];simp
theorem S8 {FZ:List AV} {n:Nat} {f:AV} (h:FZ[n]? =some f):H9 FZ (n+1)=H9 FZ n++[.bool f.dir]:=by
 unfold H9;rw [List.take_add_one,h];simp
theorem Qo {α β:Type} {xs:List α} {ys:List β} {n:Nat} {x:α} {y:β} (h:xs[n]? =some x) (k:ys[n]? =some y):(xs.zip ys)[n]? =some (x,y):=by
 rw [List.getElem?_zip_eq_some];exact ⟨h,k⟩
theorem Qp {FZ:List AV} {LS:List BN} {n:Nat} {f:AV} {l:BN} (h:FZ[n]? =some f) (k:LS[n]? =some l):F4 FZ LS (n+1)=F4 FZ LS n++[.slice l.a f.bytes.length l.c]:=by
 unfold F4;rw [List.take_add_one,Qo h k];simp
theorem Qq {FZ:List AV} {RS:List Nat} {n:Nat} {f:AV} {r:Nat} (h:FZ[n]? =some f) (k:RS[n]? =some r):Dn FZ RS (n+1)=Dn FZ RS n++IA f r:=by
 unfold Dn;rw [List.take_add_one,Qo h k];simp [List.flatMap_append]
theorem Qr {FZ:List AV} {RS:List Nat} {n:Nat} (r:Nat) (hn:n<=RS.length):Dn FZ (RS++[r]) n=Dn FZ RS n:=by
 unfold Dn
 congr 1
 show List.take n (List.zipWith Prod.mk FZ (RS++[r]))=List.take n (List.zipWith Prod.mk FZ RS)
 rw [List.take_zipWith,List.take_zipWith,yi hn]
def MW (w:World) (row:Option Nat) (e:TypeId):Prop:=row=none\/∃g cur fr,row=some g/\w.heap[g]? =some (.cells cur e fr)
theorem Bv {w:World} {base:Nat} {e:TypeId} {size n:Nat} {v:Value} {xs:List Value} (h:w.ownsRow base e size v n xs):MW w v.ownBlock e:=by
 rcases h.2 with ⟨rfl,_⟩|⟨g,cap,cur,rfl,_,hg,_⟩
 ·exact .inl rfl
 ·exact .inr ⟨g,cur,(0,0),rfl,hg⟩
theorem Du {w:World} {base:Nat} {e e':TypeId} {size n:Nat} {v:Value} {xs:List Value} {row:Option Nat} (h:w.ownsRow base e size v n xs) (hr:MW w row e') (hne:e≠e'):v.ownBlock=none\/v.ownBlock≠row:=by
 rcases h.2 with ⟨rfl,_⟩|⟨g,cap,cur,rfl,_,hg,_⟩
 ·exact .inl rfl
 ·refine .inr (fun he=> ?_)
  rcases hr with rfl|⟨g',cur',fr,rfl,hg'⟩
  ·simp [Value.ownBlock] at he
  ·simp [Value.ownBlock] at he
   subst he
   rw [hg] at hg'
   simp at hg'
   exact hne hg'.2.1
theorem B8 {w:World} {b:Nat} {e e':TypeId} {vs:List Value} {row:Option Nat} (h:AG w b e vs) (hr:MW w row e') (hne:e≠e'):some b≠row:=by
 intro he
 rcases hr with rfl|⟨g',cur',fr,rfl,hg'⟩
 ·simp at he
 ·simp at he
  subst he
  unfold AG at h
  rw [h] at hg'
  simp at hg'
  exact hne hg'.2.1
structure DA (w wr:World) (sv:List Value) (FZ:List AV) (LS:List BN) (RS:List Nat) (a b c d:Nat) (v5 v6 v7 v8:Value):Prop where
 s:AG wr w.heap.size 26 sv
 p:wr.ownsRow (w.heap.size+1) 9 1 v5 a (F3 FZ a)
 di:wr.ownsRow (w.heap.size+1) 4 1 v6 b (H9 FZ b)
 by_:wr.ownsRow (w.heap.size+1) 32 1 v7 c (F4 FZ LS c)
 fi:wr.ownsRow (w.heap.size+1) 46 3 v8 d (Dn FZ RS d)
 rs:∀(i r:Nat) (f:AV),RS[i]? =some r->FZ[i]? =some f->w.heap.size<r/\r<wr.heap.size/\AG wr r 5 (AJ (f.bytes++[71,72]))
 inc:∀(i j r q:Nat),i<j->RS[i]? =some r->RS[j]? =some q->r<q
 bl:Below w.heap.size w wr
theorem DA.move {w wr w':World} {sv:List Value} {FZ:List AV} {LS:List BN} {RS:List Nat} {a b c d:Nat} {v5 v6 v7 v8:Value} (h:DA w wr sv FZ LS RS a b c d v5 v6 v7 v8) (hb:Below wr.heap.size wr w'):DA w w' sv FZ LS RS a b c d v5 v6 v7 v8:=by
 have hg:wr.grownBy w' none:=⟨hb.os,hb.tape,hb.output,hb.size,fun k hk _=>hb.block k hk⟩
 have hn:∀v:Value,v.ownBlock=none\/v.ownBlock≠none:=fun v=>by cases v.ownBlock<;>simp
 refine ⟨h.s.grown hg (by simp),h.p.kept hg (hn _),h.di.kept hg (hn _),h.by_.kept hg (hn _),h.fi.kept hg (hn _),fun i r f hr hf=> ?_,h.inc,h.bl.trans (hb.mono h.bl.size)⟩
 obtain ⟨x,y,z⟩:=h.rs i r f hr hf
 exact ⟨x,by have:=hb.size;omega,z.grown hg (by simp)⟩
theorem Ke {w wr w':World} {row:Option Nat} (h:Below w.heap.size w wr) (hg:wr.grownBy w' row) (hr:∀g,row=some g->w.heap.size+1<=g):Below w.heap.size w w':=
 h.trans ⟨hg.os,hg.tape,hg.output,hg.size,fun k hk=>hg.block k (by have:=h.size;omega) (fun e=>by have:=hr k e.symm;omega)⟩
theorem DA.app5 {w wr w':World} {sv:List Value} {FZ:List AV} {LS:List BN} {RS:List Nat} {a b c d:Nat} {v5 v6 v7 v8 v:Value} (h:DA w wr sv FZ LS RS a b c d v5 v6 v7 v8) (hg:wr.grownBy w' v5.ownBlock) (ho:w'.ownsRow (w.heap.size+1) 9 1 v (a+1) (F3 FZ (a+1))):DA w w' sv FZ LS RS (a+1) b c d v v6 v7 v8:=by
 have ht:=Bv h.p
 refine ⟨h.s.grown hg (B8 h.s ht (by decide)),ho,h.di.kept hg (Du h.di ht (by decide)),h.by_.kept hg (Du h.by_ ht (by decide)),h.fi.kept hg (Du h.fi ht (by decide)),fun i r f hr hf=> ?_,h.inc,Ke h.bl hg (fun g he=>(h.p.lt g he).1)⟩
 obtain ⟨x,y,z⟩:=h.rs i r f hr hf
 exact ⟨x,by have:=hg.size;omega,z.grown hg (B8 z ht (by decide))⟩
theorem DA.app6 {w wr w':World} {sv:List Value} {FZ:List AV} {LS:List BN} {RS:List Nat} {a b c d:Nat} {v5 v6 v7 v8 v:Value} (h:DA w wr sv FZ LS RS a b c d v5 v6 v7 v8) (hg:wr.grownBy w' v6.ownBlock) (ho:w'.ownsRow (w.heap.size+1) 4 1 v (b+1) (H9 FZ (b+1))):DA w w' sv FZ LS RS a (b+1) c d v5 v v7 v8:=by
 have ht:=Bv h.di
 refine ⟨h.s.grown hg (B8 h.s ht (by decide)),h.p.kept hg (Du h.p ht (by decide)),ho,h.by_.kept hg (Du h.by_ ht (by decide)),h.fi.kept hg (Du h.fi ht (by decide)),fun i r f hr hf=> ?_,h.inc,Ke h.bl hg (fun g he=>(h.di.lt g he).1)⟩
 obtain ⟨x,y,z⟩:=h.rs i r f hr hf
 exact ⟨x,by have:=hg.size;omega,z.grown hg (B8 z ht (by decide))⟩
theorem DA.app7 {w wr w':World} {sv:List Value} {FZ:List AV} {LS:List BN} {RS:List Nat} {a b c d:Nat} {v5 v6 v7 v8 v:Value} (h:DA w wr sv FZ LS RS a b c d v5 v6 v7 v8) (hg:wr.grownBy w' v7.ownBlock) (ho:w'.ownsRow (w.heap.size+1) 32 1 v (c+1) (F4 FZ LS (c+1))):DA w w' sv FZ LS RS a b (c+1) d v5 v6 v v8:=by
 have ht:=Bv h.by_
 refine ⟨h.s.grown hg (B8 h.s ht (by decide)),h.p.kept hg (Du h.p ht (by decide)),h.di.kept hg (Du h.di ht (by decide)),ho,h.fi.kept hg (Du h.fi ht (by decide)),fun i r f hr hf=> ?_,h.inc,Ke h.bl hg (fun g he=>(h.by_.lt g he).1)⟩
 obtain ⟨x,y,z⟩:=h.rs i r f hr hf
 exact ⟨x,by have:=hg.size;omega,z.grown hg (B8 z ht (by decide))⟩
theorem DA.app8 {w wr w':World} {sv:List Value} {FZ:List AV} {LS:List BN} {RS:List Nat} {a b c d:Nat} {v5 v6 v7 v8 v:Value} (h:DA w wr sv FZ LS RS a b c d v5 v6 v7 v8) (hg:wr.grownBy w' v8.ownBlock) (ho:w'.ownsRow (w.heap.size+1) 46 3 v (d+1) (Dn FZ RS (d+1))):DA w w' sv FZ LS RS a b c (d+1) v5 v6 v7 v:=by
 have ht:=Bv h.fi
 refine ⟨h.s.grown hg (B8 h.s ht (by decide)),h.p.kept hg (Du h.p ht (by decide)),h.di.kept hg (Du h.di ht (by decide)),h.by_.kept hg (Du h.by_ ht (by decide)),ho,fun i r f hr hf=> ?_,h.inc,Ke h.bl hg (fun g he=>(h.fi.lt g he).1)⟩
 obtain ⟨x,y,z⟩:=h.rs i r f hr hf
 exact ⟨x,by have:=hg.size;omega,z.grown hg (B8 z ht (by decide))⟩
theorem DA.room {w wr w':World} {sv:List Value} {FZ:List AV} {LS:List BN} {RS:List Nat} {a b c d:Nat} {v5 v6 v7 v8:Value} (h:DA w wr sv FZ LS RS a b c d v5 v6 v7 v8) (hb:Below wr.heap.size wr w') (hd:d=RS.length) {f:AV} (hf:FZ[RS.length]? =some f) (hh:AG w' wr.heap.size 5 (AJ (f.bytes++[71,72]))):DA w w' sv FZ LS (RS++[wr.heap.size]) a b c d v5 v6 v7 v8:=by
 have m:=h.move hb
 refine ⟨m.s,m.p,m.di,m.by_,by rw [Qr _ (by omega)];exact m.fi,fun i r g hr hg=> ?_,fun i j r q hij hr hq=> ?_,m.bl⟩
 ·rw [yu] at hr
  split at hr
  ·exact m.rs i r g hr hg
  ·rename_i hi
   have hi2:i-RS.length=0:=by
    have:=(zy.1 hr).1
    simp at this;omega
   have:i=RS.length:=by omega
   subst this
   have e:wr.heap.size=r:=by simpa using hr
   subst e
   rw [hf] at hg
   obtain rfl:=zr hg
   exact ⟨by have:=h.s.lt;omega,hh.lt,hh⟩
 ·rw [yu] at hr hq
  split at hr
  ·split at hq
   ·exact h.inc i j r q hij hr hq
   ·rename_i hi hj
    have hj2:j-RS.length=0:=by
     have:=(zy.1 hq).1
     simp at this;omega
    rw [hj2] at hq
    have e:wr.heap.size=q:=by simpa using hq
    subst e
    obtain ⟨g,hg⟩:∃g,FZ[i]? =some g:=⟨_,zz (by have:=(zy.1 hf).1;omega)⟩
    exact (h.rs i r g hr hg).2.1
  ·rename_i hi
   split at hq
   ·omega
   ·have h1:=(zy.1 hr).1
    have h2:=(zy.1 hq).1
    simp at h1 h2;omega
theorem JK {w:World} {base:Nat} {e:TypeId} {size n:Nat} {v:Value} {xs:List Value} (h:w.ownsRow base e size v n xs):∃a b c,v= .slice a n c/\(0<n->a=some (pK b 0)/\base<=b/\b<w.heap.size/\∀j u,xs[j]? =some u->w.cell? (pK b j)=some u):=by
 rcases h.2 with ⟨hv,h0⟩|⟨g,cap,cur,hv,hb,hg,_⟩
 ·subst h0
  exact ⟨none,0,0,hv,fun h=>by omega⟩
 ·refine ⟨some (pK g 0),g,cap,hv,fun h0=>⟨rfl,hb,(Array.getElem?_eq_some_iff.1 hg).1,fun j u hu=> ?_⟩⟩
  have:=h.cells (g:=g) (by rw [hv];rfl) j u hu
  rwa [CN,zq] at this
theorem Ix:∀(FZ:List AV) (RS:List Nat) (n i c r:Nat) (f:AV) (v:Value),i<n->FZ[i]? =some f->RS[i]? =some r->c<3->(IA f r)[c]? =some v->(Dn FZ RS n)[i*3+c]? =some v
 |FZ,RS,0,i,c,r,f,v,h,_,_,_,_=>by omega
 |[],RS,n+1,i,c,r,f,v,_,h,_,_,_=>by simp at h
 |a::FZ,[],n+1,i,c,r,f,v,_,_,h,_,_=>by simp at h
 |a::FZ,b::RS,n+1,0,c,r,f,v,_,hf,hr,hc,hv=>by
  have e1:a=f:=by simpa using hf
  have e2:b=r:=by simpa using hr
  subst e1 e2
  show (IA a b++Dn FZ RS n)[0*3+c]? =_
  rw [zp (by show 0*3+c<3;omega)]
  simpa using hv
 |a::FZ,b::RS,n+1,i+1,c,r,f,v,h,hf,hr,hc,hv=>by
  show (IA a b++Dn FZ RS n)[(i+1)*3+c]? =_
  rw [zo (by show 3<=(i+1)*3+c;omega),show (i+1)*3+c-(IA a b).length=i*3+c from by show (i+1)*3+c-3=_;omega]
  exact Ix FZ RS n i c r f v (by omega) (by simpa using hf) (by simpa using hr) hc hv
theorem Lv {FZ:List AV} {i:Nat} {f:AV} (h:FZ[i]? =some f):(F3 FZ FZ.length)[i]? =some (.string f.path):=by
 unfold F3;rw [List.take_length,ze,h];rfl
theorem Nf {FZ:List AV} {i:Nat} {f:AV} (h:FZ[i]? =some f):(H9 FZ FZ.length)[i]? =some (.bool f.dir):=by
 unfold H9;rw [List.take_length,ze,h];rfl
theorem Lw {FZ:List AV} {LS:List BN} {i:Nat} {f:AV} {l:BN} (h:FZ[i]? =some f) (k:LS[i]? =some l):(F4 FZ LS FZ.length)[i]? =some (.slice l.a f.bytes.length l.c):=by
 unfold F4
 rw [ze,xy,if_pos (zy.1 h).1,Qo h k];rfl
theorem X2 {w:World} {g:Nat} {B:List Int} (h:AG w g 5 (AJ (B++[71,72]))):BC w g 0 B:=fun j hj=>by
 rw [zq]
 refine h.cell ?_
 rw [AT _ _ (by simp;omega)]
 simp [List.getD,zp hj]
def Kf (FZ:List AV) (RS:List Nat):List BN:=(FZ.zip RS).map (fun x=>⟨some (pK x.2 0),x.2,0,x.1.bytes.length+2⟩)
theorem Qs {FZ:List AV} {RS:List Nat} {i:Nat} {f:AV} {l:BN} (h:FZ[i]? =some f) (k:(Kf FZ RS)[i]? =some l):∃r,RS[i]? =some r/\l=⟨some (pK r 0),r,0,f.bytes.length+2⟩:=by
 unfold Kf at k
 rw [ze] at k
 cases hz:(FZ.zip RS)[i]? with
 |none=>rw [hz] at k;cases k
 |some x=>
  rw [hz] at k
  obtain ⟨h1,h2⟩:=List.getElem?_zip_eq_some.1 hz
  rw [h] at h1
  obtain rfl:=zr h1
  exact ⟨x.2,h2,(zr k).symm⟩
theorem DA.handed {w wr:World} {sv:List Value} {FZ:List AV} {LS:List BN} {RS:List Nat} {v5 v6 v7:Value} {a:Option Addr} {b c:Nat} (h:DA w wr sv FZ LS RS FZ.length FZ.length FZ.length FZ.length v5 v6 v7 (.slice a FZ.length c)) (hr:RS.length=FZ.length)
  (hb:0<FZ.length->a=some (pK b 0)/\∀j u,(Dn FZ RS FZ.length)[j]? =some u->wr.cell? (pK b j)=some u):Cz wr b 0 FZ (Kf FZ RS):=by
 refine ⟨by simp [Kf,List.length_zip,hr],fun i f l hf hl=> ?_⟩
 have hi:=(zy.1 hf).1
 obtain ⟨r,hri,rfl⟩:=Qs hf hl
 have hc:∀c v,c<3->(IA f r)[c]? =some v->wr.cell? (pK b (0+i*3+c))=some v:=fun c v hc hv=>by
  rw [zq];exact (hb (by omega)).2 _ _ (Ix FZ RS FZ.length i c r f v hi hf hri hc hv)
 obtain ⟨x,y,z⟩:=h.rs i r f hri hf
 exact ⟨hc 0 _ (by omega) rfl,hc 1 _ (by omega) rfl,hc 2 _ (by omega) rfl,fun _=>⟨rfl,y⟩,X2 z⟩
theorem U0 {w wr:World} {FZ:List AV} {LS:List BN} {fb foff pb db bb:Nat} (hf:Cz w fb foff FZ LS) (hbl:Below w.heap.size w wr)
  (h5:∀(i:Nat) (f:AV),FZ[i]? =some f->wr.cell? (pK pb i)=some (.string f.path)) (h6:∀(i:Nat) (f:AV),FZ[i]? =some f->wr.cell? (pK db i)=some (.bool f.dir))
  (h7:∀(i:Nat) (f:AV) (l:BN),FZ[i]? =some f->LS[i]? =some l->wr.cell? (pK bb i)=some (.slice l.a f.bytes.length l.c)):MV wr pb 0 db 0 bb 0 FZ:=by
 refine ⟨fun i f h=>by rw [zq];exact h5 i f h,fun i f h=>by rw [zq];exact h6 i f h,fun i f h=> ?_⟩
 obtain ⟨l,hl⟩:∃l,LS[i]? =some l:=⟨_,zz (by rw [hf.len];exact (zy.1 h).1)⟩
 obtain ⟨_,_,_,hq,hv⟩:=hf.at_ i f l h hl
 refine ⟨l.a,l.q,l.o,l.c,by rw [zq];exact h7 i f l h hl,fun h0=>⟨(hq h0).1,by have:=(hq h0).2;have:=hbl.size;omega⟩,fun j hj=> ?_⟩
 rw [hbl.cell (p:=(pK l.q (l.o+j))) (hq (by omega)).2]
 exact hv j hj
structure EX (w w':World) (RS:List Nat) (j:Nat):Prop where
 os:w'.os=w.os
 tape:w'.tape=w.tape
 output:w'.output=w.output
 size:w.heap.size<=w'.heap.size
 block:∀k,k<w.heap.size->(∀(i r:Nat),i<j->RS[i]? =some r->k≠r)->w'.heap[k]? =w.heap[k]?
theorem EX.step {w w' w'':World} {RS:List Nat} {j r:Nat} (h:EX w w' RS j) (hr:RS[j]? =some r) (hg:w'.grownBy w'' (some r)):EX w w'' RS (j+1):=
 ⟨hg.os.trans h.os,hg.tape.trans h.tape,hg.output.trans h.output,zh h.size hg.size,fun k hk hne=>(hg.block k (by have:=h.size;omega) (by simp;exact hne j r (by omega) hr)).trans (h.block k hk (fun i q hi hq=>hne i q (by omega) hq))⟩
theorem EX.holds {w w':World} {RS:List Nat} {j b:Nat} {t:TypeId} {vs:List Value} (h:EX w w' RS j) (hh:AG w b t vs) (hne:∀(i r:Nat),i<j->RS[i]? =some r->b≠r):AG w' b t vs:=by
 have hl:=hh.lt
 unfold AG at hh ⊢
 rw [h.block b hl hne];exact hh
theorem EX.below {w w':World} {RS:List Nat} {j B:Nat} (h:EX w w' RS j) (hB:B<=w.heap.size) (hr:∀(i r:Nat),RS[i]? =some r->B<=r):Below B w w':=
 ⟨h.os,h.tape,h.output,h.size,fun k hk=>h.block k (by omega) (fun i r _ hi e=>by have:=hr i r hi;omega)⟩
theorem EX.cell {w w':World} {RS:List Nat} {j:Nat} {b o:Nat} {v:Value} (h:EX w w' RS j) (hc:w.cell? (pK b o)=some v) (hne:∀(i r:Nat),i<j->RS[i]? =some r->b≠r):w'.cell? (pK b o)=some v:=by
 have hl:=zu w _ hc
 rw [World.cell?_of_block (a:=(pK b o)) (h.block b hl hne)];exact hc
end
section
open Go Go.RowKit
theorem Wc (pb so M K:Nat) (w:World) (hM:M<256) (hK:K<256) (x:Int) (hx:x=(M:Int)*256+(K:Int)):
  Calls Tryz.prog 319 #[pq pb so,.int .u64 x] w fun e w'=>e= .returned (pq pb (so+M*257+1+K))/\w'=w:=by
 have h0:0<=x:=by omega
 have q1:x.tdiv 256=(M:Int):=by rw [Int.tdiv_eq_ediv_of_nonneg h0];omega
 have q2:x.tmod 256=(K:Int):=by rw [yn h0];omega
 have hM0:(0:Int)<=(M:Int):=by omega
 have hM1:(M:Int)<256:=by omega
 have hK0:(0:Int)<=(K:Int):=by omega
 have hK1:(K:Int)<256:=by omega
 have hx1:x<=65535:=by omega
 clear hx
 go_enter Tryz.func319,Tryz.ntmps319
 go_wp2
 go_ret
 exact ⟨by simp,rfl⟩
def E7 (w:World) (bb bo:Nat) (B:List Int):Nat->World
 |0=>w
 |j+1=>(E7 w bb bo B j).setCell (pK bb (bo+j)) (.int .u8 (B.getD j 0))
theorem IE (w:World) (bb bo:Nat) (B:List Int):∀j,w.grownBy (E7 w bb bo B j) (some bb)
 |0=>zk w _
 |j+1=>AS (IE w bb bo B j) _ _
theorem J4 (w:World) (bb bo:Nat) (B:List Int) (i:Nat):∀j,j<=i->(E7 w bb bo B j).cell? (pK bb (bo+i))=w.cell? (pK bb (bo+i))
 |0,_=>rfl
 |j+1,h=>by
  show ((E7 w bb bo B j).setCell (pK bb (bo+j)) _).cell? (pK bb (bo+i))=_
  have ho:bo+j≠bo+i:=by omega
  rw [z7 _ _ _ _ (fun e=>ho (by injection e))]
  exact J4 w bb bo B i j (by omega)
theorem L5 (w:World) (bb bo:Nat) (B:List Int) (i:Nat) (h:w.frozen? (pK bb i)=false):∀j,(E7 w bb bo B j).frozen? (pK bb i)=false
 |0=>h
 |j+1=>by
  show ((E7 w bb bo B j).setCell (pK bb (bo+j)) _).frozen? (pK bb i)=_
  simpa using L5 w bb bo B i h j
theorem L6 {f:Nat->Int} {perm addr:Int} {n:Nat} (h:Ae f perm addr n=true) {j:Nat} (hj:j<n):IntKind.u64.wrap (addr+(j:Int))<65536:=by
 unfold Ae at h
 have:=zb.1 h j (zg.2 hj)
 unfold FY at this
 simp at this
 exact this.1
def Wd (b:Bool) (w F:World) (e:Ending) (w':World):Prop:=e= .returned (.bool b)/\(b=true->w'=F)/\(b=false->w'=w)
theorem TV (pb so bb bo cap:Nat) (f g:Nat->Int) (perm addr:Int) (n:Nat) (w:World) (hn:n<=1000) (hne:bb≠pb) (ha:0<=addr/\addr<=18446744073709551615) (hcap:n<=cap) (hc:∀j:Nat,j<256->w.cell? (pK pb (so+j*257))=some (.int .u8 (f j))) (hg:∀M K:Nat,M<256->K<256->w.cell? (pK pb (so+M*257+1+K))=some (.int .u8 (g (M*256+K)))) (hb:∀i,i<n->∃z,w.cell? (pK bb (bo+i))=some (.int .u8 z)) (hfz:∀i,w.frozen? (pK bb i)=false):
  Calls Tryz.prog 244 #[pq pb so,.slice (some (pK bb bo)) n cap,.int .u64 addr,.int .u8 perm] w (Wd (Ae f perm addr n) w (E7 w bb bo ((List.range n).map fun i:Nat=>g (IntKind.u64.wrap (addr+(i:Int))).toNat) n)):=by
 have HMY:=AC (TU pb so f perm addr n w hn hc)
 have HG:=AC hg
 have HB:=AC hb
 have HFZ:=AC hfz
 obtain ⟨b,hbm⟩:∃b,b=Ae f perm addr n:=⟨_,rfl⟩
 have HSM:=AC (show b=true->∀j,j<n->IntKind.u64.wrap (addr+(j:Int))<65536 from fun h j hj=>L6 (hbm▸h) hj)
 rw [<-hbm] at HMY ⊢
 obtain ⟨BB,hBB⟩:∃BB,BB=(List.range n).map fun i:Nat=>g (IntKind.u64.wrap (addr+(i:Int))).toNat:=⟨_,rfl⟩
 have HBB:=AC (show ∀j,j<n->BB.getD j 0=g (IntKind.u64.wrap (addr+(j:Int))).toNat from fun j hj=>by
  rw [hBB,zl,ze,xx hj];rfl)
 rw [<-hBB]
 clear hBB hc hg hb hfz hbm
 go_enter Tryz.func244,Tryz.ntmps244
 go_wp2_with fail
 refine (AB HMY).mono ?_
 rintro e w1 ⟨rfl,hw1⟩
 subst hw1
 clear HMY
 cases b with
 |false=>
  go_wp2
  go_ret
  exact ⟨rfl,fun h=>(by cases h),fun _=>rfl⟩
 |true=>
 have HLE:=AC (AB HSM rfl)
 clear HSM
 obtain ⟨W0,hW0⟩:∃W0,W0=w1:=⟨_,rfl⟩
 rw [<-hW0] at HG HB HFZ
 have HW0:=AC hW0
 go_wp2
 go_loopw [19] (fun i wr=>∃j:Nat,j<=n/\i= .int .i64 j/\Hid (wr=E7 W0 bb bo BB j)) (fun i _=>n-(intOf i).toNat)
 case atStart=>exact ⟨0,by omega,rfl,AC hW0.symm⟩
 case round=>
  obtain ⟨j,hj,rfl,HWR⟩:=hrel
  clear hW0
  by_cases hlt:j<n
  ·have hj1:(j:Int)<(n:Int):=by omega
   have hj0:(0:Int)<=(j:Int):=by omega
   have hj2:IntKind.u64.wrap (j:Int)=(j:Int):=by rw [ym];omega
   have hle:=AB HLE j hlt
   have hbj:=AB HBB j hlt
   obtain ⟨X,hX⟩:∃X,X=IntKind.u64.wrap (addr+(j:Int)):=⟨_,rfl⟩
   rw [<-hX] at hle hbj
   have hX0:0<=X:=by rw [hX,ym];omega
   have q1:=hX.symm
   obtain ⟨M,hM⟩:∃M:Nat,(M:Int)=X/256:=⟨(X/256).toNat,by omega⟩
   obtain ⟨K,hK⟩:∃K:Nat,(K:Int)=X%256:=⟨(X%256).toNat,by omega⟩
   have hXn:X.toNat=M*256+K:=by omega
   rw [hXn] at hbj
   have hcell:=AB HG M K (by omega) (by omega)
   rw [<-hbj] at hcell
   have hcw:wr.cell? (pK pb (so+M*257+1+K))=some (.int .u8 (BB.getD j 0)):=by
    rw [AB HWR]
    exact (IE W0 bb bo BB j).cell hcell (by simpa using hne.symm)
   obtain ⟨z,hz⟩:=AB HB j hlt
   have hzw:wr.cell? (pK bb (bo+j))=some (.int .u8 z):=by rw [AB HWR,J4 W0 bb bo BB j j (zx _)];exact hz
   have hzf:wr.frozen? (pK bb (bo+j))=false:=by rw [AB HWR];exact L5 W0 bb bo BB _ (AB HFZ _) j
   have HAT:=AC (Wc pb so M K wr (by omega) (by omega) X (by omega))
   have HNW:=AC (show wr.setCell (pK bb (bo+j)) (.int .u8 (BB.getD j 0))=E7 W0 bb bo BB (j+1) from by rw [AB HWR];rfl)
   obtain ⟨V,hV⟩:∃V,V=BB.getD j 0:=⟨_,rfl⟩
   rw [<-hV] at hcw HNW
   clear hX hM hK hXn hbj hcell hz hle hV
   go_wp2_with fail
   refine (AB HAT).mono ?_
   rintro e w2 ⟨rfl,hw2⟩
   subst hw2
   clear HAT
   go_wp2
   exact ⟨⟨j+1,by omega,by simp,AC (AB HNW)⟩,by simp only [intOf];omega⟩
  ·have hje:j=n:=by omega
   subst hje
   go_wp2
   go_ret
   exact ⟨rfl,fun _=>(by rw [<-AB HW0];exact AB HWR),fun h=>(by cases h)⟩
def Eh (so:Nat) (x:Int):Nat:=so+(x/256).toNat*257+1+(x%256).toNat
def CX (w:World) (pb so:Nat) (addr:Int) (L:List Int):Nat->World
 |0=>w
 |j+1=>(CX w pb so addr L j).setCell (pK pb (Eh so (IntKind.u64.wrap (addr+(j:Int))))) (.int .u8 (L.getD j 0))
theorem Gh (w:World) (pb so:Nat) (addr:Int) (L:List Int):∀j,w.grownBy (CX w pb so addr L j) (some pb)
 |0=>zk w _
 |j+1=>AS (Gh w pb so addr L j) _ _
theorem L7 (w:World) (pb so:Nat) (addr:Int) (L:List Int) (o:Nat) (h:∃z,w.cell? (pK pb o)=some (.int .u8 z)):∀j,∃z,(CX w pb so addr L j).cell? (pK pb o)=some (.int .u8 z)
 |0=>h
 |j+1=>by
  obtain ⟨z,hz⟩:=L7 w pb so addr L o h j
  by_cases e:Eh so (IntKind.u64.wrap (addr+(j:Int)))=o
  ·subst e
   exact ⟨_,z8 _ _ _ hz⟩
  ·refine ⟨z,?_⟩
   show ((CX w pb so addr L j).setCell _ _).cell? _=_
   rw [z7 _ _ _ _ (fun q=>e (by injection q))]
   exact hz
theorem Ki (w:World) (pb so:Nat) (addr:Int) (L:List Int) (i:Nat) (h:w.frozen? (pK pb i)=false):∀j,(CX w pb so addr L j).frozen? (pK pb i)=false
 |0=>h
 |j+1=>by
  show ((CX w pb so addr L j).setCell _ _).frozen? _=_
  simpa using Ki w pb so addr L i h j
theorem aM {w w':World} (h:w.heap=w'.heap) (a:Addr) (v:Value):(w.setCell a v).heap=(w'.setCell a v).heap:=by
 simp only [World.setCell,h]
def Fa (w w':World):Prop:=w'.heap=w.heap/\w'.os=w.os/\w'.tape=w.tape/\w'.output=w.output
def We (b:Bool) (w F:World) (e:Ending) (w':World):Prop:=e= .returned (.bool b)/\(b=true->Fa F w')/\(b=false->w'=w)
def Nr (bb o:Nat) (V:Int) (w:World):Prop:=w.cell? (pK bb o)=some (.int .u8 V)
theorem aN:∀args w,(callFunc 319 args).run Tryz.prog w= .ok (.enter 319 args) w:=enters_of Tryz.func319 (by kernel_rfl) rfl
theorem aO (pb so bb bo cap:Nat) (f:Nat->Int) (addr:Int) (L:List Int) (n:Nat) (w:World) (hL:L.length=n) (hn:n<=1000) (hne:bb≠pb) (ha:0<=addr/\addr<=18446744073709551615) (hcap:n<=cap) (hc:∀j:Nat,j<256->w.cell? (pK pb (so+j*257))=some (.int .u8 (f j))) (hg:∀M K:Nat,M<256->K<256->∃z,w.cell? (pK pb (so+M*257+1+K))=some (.int .u8 z)) (hb:∀i,i<n->w.cell? (pK bb (bo+i))=some (.int .u8 (L.getD i 0))) (hfz:∀i,w.frozen? (pK pb i)=false):
  Calls Tryz.prog 271 #[pq pb so,.int .u64 addr,.slice (some (pK bb bo)) n cap] w (We (Ae f 2 addr n) w (CX w pb so addr L n)):=by
 have HMY:=AC (TU pb so f 2 addr n w hn hc)
 have HG:=AC hg
 have HB:=AC hb
 have HFZ:=AC hfz
 obtain ⟨b,hbm⟩:∃b,b=Ae f 2 addr n:=⟨_,rfl⟩
 have HSM:=AC (show b=true->∀j,j<n->IntKind.u64.wrap (addr+(j:Int))<65536 from fun h j hj=>L6 (hbm▸h) hj)
 rw [<-hbm] at HMY ⊢
 clear hc hg hb hfz hbm hL
 go_enter Tryz.func271,Tryz.ntmps271
 go_wp2_with fail
 refine (AB HMY).mono ?_
 rintro e w1 ⟨rfl,hw1⟩
 subst hw1
 clear HMY
 cases b with
 |false=>
  go_wp2
  go_ret
  exact ⟨rfl,fun h=>(by cases h),fun _=>rfl⟩
 |true=>
 have HLE:=AC (AB HSM rfl)
 clear HSM
 obtain ⟨W0,hW0⟩:∃W0,W0=w1:=⟨_,rfl⟩
 rw [<-hW0] at HG HB HFZ
 have HW0:=AC hW0
 go_wp2
 go_loopw [16] (fun i wr=>∃j:Nat,j<=n/\i= .int .i64 j/\Hid (Fa (CX W0 pb so addr L j) wr)) (fun i _=>n-(intOf i).toNat)
 case atStart=>exact ⟨0,by omega,rfl,AC (by rw [<-hW0];exact ⟨rfl,rfl,rfl,rfl⟩)⟩
 case round=>
  obtain ⟨j,hj,rfl,HWR⟩:=hrel
  clear hW0
  by_cases hlt:j<n
  ·have hj1:(j:Int)<(n:Int):=by omega
   have hj0:(0:Int)<=(j:Int):=by omega
   have hle:=AB HLE j hlt
   obtain ⟨X,hX⟩:∃X,X=IntKind.u64.wrap (addr+(j:Int)):=⟨_,rfl⟩
   rw [<-hX] at hle
   have hX0:0<=X:=by rw [hX,ym];omega
   obtain ⟨M,hM⟩:∃M:Nat,(M:Int)=X/256:=⟨(X/256).toNat,by omega⟩
   obtain ⟨K,hK⟩:∃K:Nat,(K:Int)=X%256:=⟨(X%256).toNat,by omega⟩
   have hsp:Eh so X=so+M*257+1+K:=by unfold Eh;rw [show (X/256).toNat=M by omega,show (X%256).toNat=K by omega]
   obtain ⟨Y,hY⟩:∃Y,Y=so+M*257+1+K:=⟨_,rfl⟩
   obtain ⟨V,hV⟩:∃V,V=L.getD j 0:=⟨_,rfl⟩
   have hwr:=AB HWR
   have hcb:wr.drew.cell? (pK bb (bo+j))=some (.int .u8 V):=by
    have h1:=(Gh W0 pb so addr L j).cell (AB HB j hlt) (by simpa using hne)
    rw [hV]
    unfold World.cell? at h1 ⊢
    rw [show wr.drew.heap=wr.heap from rfl,hwr.1]
    exact h1
   obtain ⟨z,hz⟩:∃z,wr.drew.cell? (pK pb Y)=some (.int .u8 z):=by
    obtain ⟨z,h1⟩:=L7 W0 pb so addr L Y (by rw [hY];exact AB HG M K (by omega) (by omega)) j
    refine ⟨z,?_⟩
    unfold World.cell? at h1 ⊢
    rw [show wr.drew.heap=wr.heap from rfl,hwr.1]
    exact h1
   have hzf:wr.drew.frozen? (pK pb Y)=false:=by
    have h1:=Ki W0 pb so addr L Y (AB HFZ Y) j
    unfold World.frozen? at h1 ⊢
    rw [show wr.drew.heap=wr.heap from rfl,hwr.1]
    exact h1
   obtain ⟨wn,hwn⟩:∃wn,wn=wr.drew.setCell (pK pb Y) (.int .u8 V):=⟨_,rfl⟩
   have HST:=AC (show (Instr.storeAt 5 (pq pb Y) (.int .u8 V)).run Tryz.prog wr.drew= .ok () wn from by
    rw [hwn]
    clear hwr hcb hsp hX hM hK hY hV HWR HG HB HFZ HLE hwn
    go_simp)
   have HSN:=AC (show Nr bb (bo+j) V wn from by
    rw [hwn]
    exact (AS (zk wr.drew (some pb)) Y (.int .u8 V)).cell hcb (by simpa using hne))
   have HN:=AC (show Fa (CX W0 pb so addr L (j+1)) wn from by
    have e1:CX W0 pb so addr L (j+1)=(CX W0 pb so addr L j).setCell (pK pb Y) (.int .u8 V):=by
     show (CX W0 pb so addr L j).setCell (pK pb (Eh so (IntKind.u64.wrap (addr+(j:Int))))) (.int .u8 (L.getD j 0))=_
     rw [<-hX,hsp,<-hY,<-hV]
    rw [e1,hwn]
    exact ⟨aM hwr.1 _ _,hwr.2.1,hwr.2.2.1,hwr.2.2.2⟩)
   have HS1:=AC (show Nr bb (bo+j) V wr.drew from hcb)
   have HAT:=AC (Wc pb so M K wr.drew (by omega) (by omega) X (by omega))
   rw [<-hY] at HAT
   have RB:=AC (show ∀w':World,Nr bb (bo+j) V w'->(Instr.loadAt 5 (pq bb (bo+j))).run Tryz.prog w'= .ok (.int .u8 V) w' from fun w' c=>by
    unfold Nr at c
    clear hwr hcb hsp hX hM hK hY hV HWR HG HB HFZ HLE hwn HST HSN HN HS1 HAT hz hzf
    go_simp)
   have RC:=AC (show ∀w':World,(convert 3 75 (.int .i64 (j:Int))).run Tryz.prog w'= .ok (.int .u64 (j:Int)) w' from fun w'=>by
    have hj2:IntKind.u64.wrap (j:Int)=(j:Int):=by rw [ym];omega
    clear hwr hcb hsp hX hM hK hY hV HWR HG HB HFZ HLE hwn HST HSN HN HS1 HAT hz hzf RB
    go_simp)
   have RD:=AC (show ∀w':World,((do eqGuard .add 75 (.tmp 20) (.tmp 22) (.int .u64 addr) (.int .u64 (j:Int));binOp .add 75 (.int .u64 addr) (.int .u64 (j:Int)):Sem Value)).run Tryz.prog w'= .ok (.int .u64 X) w' from fun w'=>by
    have q1:=hX.symm
    clear hwr hcb hsp hX hM hK hY hV HWR HG HB HFZ HLE hwn HST HSN HN HS1 HAT hz hzf RB RC
    go_simp)
   have RK:=AC (show ∀w':World,(Instr.indexAt 32 (.slice (some (pK bb bo)) n cap) (.int .i64 (j:Int))).run Tryz.prog w'= .ok (pq bb (bo+j)) w' from fun w'=>by
    clear hwr hcb hsp hX hM hK hY hV HWR HG HB HFZ HLE hwn HST HSN HN HS1 HAT hz hzf RB RC RD
    go_simp)
   clear hwr hcb hsp hX hM hK hY hV hwn hz hzf hle hX0
   go_upto_region 6 with fail
   refine BA ?_
   intro A hA
   have e0:A.eval (.tmp 0)= pq pb so:=by rw [hA];rfl
   have e1:A.eval (.tmp 1)= .int .u64 addr:=by rw [hA];rfl
   have e2:A.eval (.tmp 2)= .slice (some (pK bb bo)) n cap:=by rw [hA];rfl
   have e7:A.eval (.tmp 7)= .int .i64 (j:Int):=by rw [hA];rfl
   have esz:A.tmps.size=31:=by rw [hA];rfl
   have HAC:=AC hA
   clear hA
   refine wp_region_held_drew (S:=Nr bb (bo+j) V) (by kernel_rfl) (AB HS1) (fun hS=> ?_)
   refine tk 0 (some 19) rfl rfl (by kernel_rfl) (fun _ _ _=>id) (AK rfl _ rfl (pq pb so) (by simp [AF,AE,esz,e0,e1,e2,e7,AI])) hS ?_
   refine tk 1 (some 20) rfl rfl (by kernel_rfl) (fun _ _ _=>id) (AK rfl _ rfl (.int .u64 addr) (by simp [AF,AE,esz,e0,e1,e2,e7,AI])) hS ?_
   refine tk 2 (some 21) rfl rfl (by kernel_rfl) (fun _ _ _=>id) (AK rfl _ rfl (.int .i64 (j:Int)) (by simp [AF,AE,esz,e0,e1,e2,e7,AI])) hS ?_
   refine tk 3 (some 22) rfl rfl (by kernel_rfl) (fun _ _ _=>id) (It rfl _ _ _ rfl (.int .i64 (j:Int)) (by simp [AF,AE,esz,e0,e1,e2,e7,AI]) (.int .u64 (j:Int)) (AB RC)) hS ?_
   refine tk 4 (some 23) rfl rfl (by kernel_rfl) (fun _ _ _=>id) (B7 rfl .add _ _ (.tmp 20) (.tmp 22) rfl (.int .u64 addr) (.int .u64 (j:Int)) (by simp [AF,AE,esz,e0,e1,e2,e7,AI]) (by simp [AF,AE,esz,e0,e1,e2,e7,AI]) (.int .u64 X) (AB RD)) hS ?_
   refine tk 6 (some 25) rfl rfl (by kernel_rfl) (fun _ _ _=>id) (AK rfl _ rfl (.slice (some (pK bb bo)) n cap) (by simp [AF,AE,esz,e0,e1,e2,e7,AI])) hS ?_
   refine tk 7 (some 26) rfl rfl (by kernel_rfl) (fun _ _ _=>id) (AK rfl _ rfl (.int .i64 (j:Int)) (by simp [AF,AE,esz,e0,e1,e2,e7,AI])) hS ?_
   refine tk 8 (some 27) rfl rfl (by kernel_rfl) (fun _ _ _=>id) (BM rfl _ _ _ rfl (.slice (some (pK bb bo)) n cap) (.int .i64 (j:Int)) (by simp [AF,AE,esz,e0,e1,e2,e7,AI]) (by simp [AF,AE,esz,e0,e1,e2,e7,AI]) (pq bb (bo+j)) (AB RK)) hS ?_
   refine tk 9 (some 28) rfl rfl (by kernel_rfl) (fun _ _ _=>id) (AQ rfl _ _ rfl (pK bb (bo+j)) (by simp [AF,AE,esz,e0,e1,e2,e7,AI]) (.int .u8 V) (AB RB)) hS ?_
   refine rdy [5] (by kernel_rfl) (AllReadyH.cons rfl (fun K hK=> ?_) AllReadyH.nil)
   refine Bt rfl 319 _ _ rfl #[pq pb so,.int .u64 X] (by simp [AF,AE,esz,e0,e1,e2,e7,AI]) aN _ (fun e w' h=>⟨_,h.1⟩) (AB HAT) (some 24) rfl ?_
   rintro r w2 ⟨hr,rfl⟩
   obtain rfl:r= pq pb Y:=by injection hr
   refine hK.out _ _ hS (fun _=> ?_)
   clear hK K
   refine tk 10 (some 29) rfl rfl (by kernel_rfl) (fun _ _ _=>id) (AX rfl _ rfl (pK pb Y) (by simp [AF,AE,esz,e0,e1,e2,e7,AI])) hS ?_
   refine Ef ?_
   intro A2 hA2
   have g29:A2.eval (.tmp 29)= pq pb Y:=by rw [hA2];simp [AF,AE,esz,e0,e1,e2,e7,AI]
   have g28:A2.eval (.tmp 28)= .int .u8 V:=by rw [hA2];simp [AF,AE,esz,e0,e1,e2,e7,AI]
   have HAC2:=AC hA2
   clear hA2
   refine rdy [11] (by kernel_rfl) (AllReadyH.cons rfl (fun K hK=> ?_) AllReadyH.nil)
   refine De rfl _ (.tmp 29) (.tmp 28) rfl (pK pb Y) (.int .u8 V) g29 g28 (AB HST) rfl ?_
   refine hK.out _ _ (AB HSN) (fun _=> ?_)
   clear hK K
   refine wpAnyH_done (by kernel_rfl) ?_ _
   rw [AB HAC2,AB HAC]
   simp only [Act.put,zm,zi,zj]
   clear RB RC RD RK HS1 HSN HST HAC HAC2 g29 g28 e0 e1 e2 e7 esz hS HAT
   go_wp2
   exact ⟨⟨j+1,by omega,by simp,HN⟩,by simp only [intOf];omega⟩
  ·have hje:j=n:=by omega
   subst hje
   go_wp2
   go_ret
   exact ⟨rfl,fun _=>(by rw [<-AB HW0];exact AB HWR),fun h=>(by cases h)⟩
def IF (op:Int) (a b:Nat) (im:Int):Value:= .agg #[.int .u8 op,.int .i64 (a:Int),.int .i64 (b:Int),.int .i16 im]
theorem Ns {B:Nat} {w w':World} (h:Below B w w') (n:Nat):Below B w (w'.drewN n):=⟨h.os,h.tape,h.output,h.size,h.block⟩
theorem aP (pb co:Nat) (op:Int) (a b:Nat) (im R:Int) (w:World) (ha:a<16) (h:w.cell? (pK pb (co+1+a))=some (.int .u64 R)):
  Calls Tryz.prog 324 #[pq pb co,IF op a b im] w fun e w'=>e= .returned (.int .u64 R)/\Below w.heap.size w w':=by
 have hl:pb<w.heap.size:=zu w _ h
 have HB:=AC (show Below w.heap.size w (w.alloc (Obj.cells #[.int .u8 op,.int .i64 (a:Int),.int .i64 (b:Int),.int .i16 im] 350)) from (zw _ _).alloc (zx _) _)
 have h0:(0:Int)<=(a:Int):=by omega
 have h1:(a:Int)<16:=by omega
 unfold IF
 go_enter Tryz.func324,Tryz.ntmps324
 go_wp2
 go_quiet (fail)
 go_wp2
 go_ret
 exact ⟨rfl,Ns (AB HB) _⟩
theorem aQ (pb co:Nat) (op:Int) (a b:Nat) (im R:Int) (w:World) (ha:b<16) (h:w.cell? (pK pb (co+1+b))=some (.int .u64 R)):
  Calls Tryz.prog 323 #[pq pb co,IF op a b im] w fun e w'=>e= .returned (.int .u64 R)/\Below w.heap.size w w':=by
 have hl:pb<w.heap.size:=zu w _ h
 have HB:=AC (show Below w.heap.size w (w.alloc (Obj.cells #[.int .u8 op,.int .i64 (a:Int),.int .i64 (b:Int),.int .i16 im] 350)) from (zw _ _).alloc (zx _) _)
 have h0:(0:Int)<=(b:Int):=by omega
 have h1:(b:Int)<16:=by omega
 unfold IF
 go_enter Tryz.func323,Tryz.ntmps323
 go_wp2
 go_quiet (fail)
 go_wp2
 go_ret
 exact ⟨rfl,Ns (AB HB) _⟩
theorem Fj (pb co:Nat) (PC:Int) (w:World) (h:w.cell? (pK pb co)=some (.int .u64 PC)):
  Calls Tryz.prog 325 #[pq pb co] w fun e w'=>e= .returned (.int .u64 (IntKind.u64.wrap (PC+4)))/\w'=w:=by
 go_enter Tryz.func325,Tryz.ntmps325
 go_wp2
 go_ret
 exact ⟨rfl,rfl⟩
theorem Nt (op:Int) (a b:Nat) (im:Int) (w:World) (hi: -32768<=im/\im<=32767):
  Calls Tryz.prog 322 #[IF op a b im] w fun e w'=>e= .returned (.int .u64 (IntKind.u64.wrap im))/\Below w.heap.size w w':=by
 have HB:=AC (show Below w.heap.size w (w.alloc (Obj.cells #[.int .u8 op,.int .i64 (a:Int),.int .i64 (b:Int),.int .i16 im] 350)) from (zw _ _).alloc (zx _) _)
 have y1:IntKind.i64.wrap im=im:=by rw [yl]<;>omega
 unfold IF
 go_enter Tryz.func322,Tryz.ntmps322
 go_wp2
 go_ret
 exact ⟨rfl,AB HB⟩
def D6 (w w':World) (pb o:Nat) (v:Value):Prop:=w.grownBy w' (some pb)/\w'.heap[pb]? =(w.setCell (pK pb o) v).heap[pb]?
theorem TW (pb co:Nat) (op:Int) (a b:Nat) (im n PC R:Int) (w:World) (ha:a<16) (h0:w.cell? (pK pb co)=some (.int .u64 PC)) (h:w.cell? (pK pb (co+1+a))=some (.int .u64 R)) (hf:w.frozen? (pK pb (co+1+a))=false):
  Calls Tryz.prog 321 #[pq pb co,IF op a b im,.int .u64 n] w fun e w'=>e= .returned (.int .u64 (IntKind.u64.wrap (PC+4)))/\D6 w w' pb (co+1+a) (.int .u64 n):=by
 have hl:pb<w.heap.size:=zu w _ h
 have hne:pb≠w.heap.size:=by omega
 have i0:(0:Int)<=(a:Int):=by omega
 have i1:(a:Int)<16:=by omega
 have hco:co≠co+1+a:=by omega
 unfold IF
 obtain ⟨W3,hW3⟩:∃W3,W3=((w.setCell (pK pb (co+1+a)) (.int .u64 n)).alloc (Obj.cells #[.int .u8 op,.int .i64 (a:Int),.int .i64 (b:Int),.int .i16 im] 350)).drew:=⟨_,rfl⟩
 have hg:=AS (zk w (some pb)) (co+1+a) (.int .u64 n)
 have hb3:Below (w.setCell (pK pb (co+1+a)) (.int .u64 n)).heap.size (w.setCell (pK pb (co+1+a)) (.int .u64 n)) W3:=by
  rw [hW3]
  have:=(zw (w.setCell (pK pb (co+1+a)) (.int .u64 n)).heap.size (w.setCell (pK pb (co+1+a)) (.int .u64 n))).alloc (zx _) (Obj.cells #[.int .u8 op,.int .i64 (a:Int),.int .i64 (b:Int),.int .i16 im] 350)
  exact ⟨this.os,this.tape,this.output,this.size,this.block⟩
 have hs:=hg.size
 have HF:=AC (show D6 w W3 pb (co+1+a) (.int .u64 n) from ⟨⟨hb3.os.trans hg.os,hb3.tape.trans hg.tape,hb3.output.trans hg.output,zh hg.size hb3.size,fun k hk hn=>(hb3.block k (by omega)).trans (hg.block k hk hn)⟩,hb3.block pb (by omega)⟩)
 have HNX:=AC (Fj pb co PC W3 (by
  rw [hb3.cell (p:=(pK pb co)) (by show pb<_;omega)]
  rw [z7 _ _ _ _ (fun q=>hco (by injection q with q1 q2;exact q2.symm))]
  exact h0))
 have HW3:=AC hW3
 clear hg hb3 hs hW3
 go_enter Tryz.func321,Tryz.ntmps321
 go_wp2
 go_region
 rw [<-AB HW3]
 go_wp2_with fail
 refine (AB HNX).mono ?_
 rintro e w4 ⟨rfl,rfl⟩
 go_wp2
 go_ret
 exact ⟨rfl,AB HF⟩
theorem D6.of_below {w W w':World} {pb o:Nat} {v:Value} (h:D6 W w' pb o v) (hb:Below w.heap.size w W) (hl:pb<w.heap.size):D6 w w' pb o v:=by
 have hs:=hb.size
 refine ⟨⟨h.1.os.trans hb.os,h.1.tape.trans hb.tape,h.1.output.trans hb.output,zh hb.size h.1.size,fun k hk hn=>(h.1.block k (by omega) hn).trans (hb.block k hk)⟩,h.2.trans ?_⟩
 have e:=hb.block pb hl
 simp only [World.setCell,Array.getElem?_modify]
 simp [e]
structure G9 (w:World) (pb co:Nat) (PC:Int) (R:List Int):Prop where
 pc:w.cell? (pK pb co)=some (.int .u64 PC)
 regs:∀r,r<16->w.cell? (pK pb (co+1+r))=some (.int .u64 (R.getD r 0))
 fz:∀i,w.frozen? (pK pb i)=false
theorem G9.below {w w':World} {pb co:Nat} {PC:Int} {R:List Int} (h:G9 w pb co PC R) (hb:Below w.heap.size w w'):G9 w' pb co PC R:=by
 have hl:pb<w.heap.size:=zu w _ h.pc
 exact ⟨by rw [hb.cell (p:=(pK pb co)) hl];exact h.pc,fun r hr=>by rw [hb.cell (p:=(pK pb (co+1+r))) hl];exact h.regs r hr,fun i=>by rw [hb.frozen (p:=(pK pb i)) hl];exact h.fz i⟩
theorem G9.lt {w:World} {pb co:Nat} {PC:Int} {R:List Int} (h:G9 w pb co PC R):pb<w.heap.size:=zu w _ h.pc
def C4 (w:World) (pb co:Nat) (PC:Int) (a:Nat) (n:Int) (e:Ending) (w':World):Prop:=e= .returned (.int .u64 (IntKind.u64.wrap (PC+4)))/\D6 w w' pb (co+1+a) (.int .u64 n)
structure Ad (w W:World) (op:Int) (a b:Nat) (im:Int):Prop where
 below:Below w.heap.size w W
 row:AG W w.heap.size 350 [.int .u8 op,.int .i64 (a:Int),.int .i64 (b:Int),.int .i16 im]
theorem Ad.new (w:World) (op:Int) (a b:Nat) (im:Int):Ad w (w.alloc (Obj.cells #[.int .u8 op,.int .i64 (a:Int),.int .i64 (b:Int),.int .i16 im] 350)) op a b im:=⟨(zw _ _).alloc (zx _) _,AG.new w 350 _⟩
theorem Ad.next {w W W':World} {op:Int} {a b:Nat} {im:Int} (h:Ad w W op a b im) (hb:Below W.heap.size W W'):Ad w W' op a b im:=⟨h.below.trans (hb.mono h.below.size),h.row.below hb h.row.lt⟩
theorem Ad.drew {w W:World} {op:Int} {a b:Nat} {im:Int} (h:Ad w W op a b im):Ad w W.drew op a b im:=h.next ⟨rfl,rfl,rfl,zx _,fun _ _=>rfl⟩
def JT (w W:World) (op:Int) (a b:Nat) (im:Int):Prop:=W.cell? (pK w.heap.size 0)=some (.int .u8 op)/\W.cell? (pK w.heap.size 1)=some (.int .i64 (a:Int))/\W.cell? (pK w.heap.size 2)=some (.int .i64 (b:Int))/\W.cell? (pK w.heap.size 3)=some (.int .i16 im)
theorem Ad.c {w W:World} {op:Int} {a b:Nat} {im:Int} (h:Ad w W op a b im):JT w W op a b im:=⟨h.row.cell (j:=0) rfl,h.row.cell (j:=1) rfl,h.row.cell (j:=2) rfl,h.row.cell (j:=3) rfl⟩
structure Parts (w:World) (pb co:Nat) (PC U V op:Int) (a b:Nat) (im:Int):Prop where
 ra:∀W,Ad w W op a b im->Calls Tryz.prog 324 #[pq pb co,.agg #[.int .u8 op,.int .i64 (a:Int),.int .i64 (b:Int),.int .i16 im]] W fun e w'=>e= .returned (.int .u64 U)/\Ad w w' op a b im
 rb:∀W,Ad w W op a b im->Calls Tryz.prog 323 #[pq pb co,.agg #[.int .u8 op,.int .i64 (a:Int),.int .i64 (b:Int),.int .i16 im]] W fun e w'=>e= .returned (.int .u64 V)/\Ad w w' op a b im
 ri:∀W,Ad w W op a b im->Calls Tryz.prog 322 #[.agg #[.int .u8 op,.int .i64 (a:Int),.int .i64 (b:Int),.int .i16 im]] W fun e w'=>e= .returned (.int .u64 (IntKind.u64.wrap im))/\Ad w w' op a b im
 next:∀W,Ad w W op a b im->Calls Tryz.prog 325 #[pq pb co] W fun e w'=>e= .returned (.int .u64 (IntKind.u64.wrap (PC+4)))/\Ad w w' op a b im
 be:∀W n,Ad w W op a b im->Calls Tryz.prog 321 #[pq pb co,.agg #[.int .u8 op,.int .i64 (a:Int),.int .i64 (b:Int),.int .i16 im],.int .u64 n] W fun e w'=>e= .returned (.int .u64 (IntKind.u64.wrap (PC+4)))/\JT w w' op a b im/\D6 w w' pb (co+1+a) (.int .u64 n)
theorem G9.parts {w:World} {pb co:Nat} {PC:Int} {R:List Int} (h:G9 w pb co PC R) (op:Int) {a b:Nat} {im:Int} (ha:a<16) (hb:b<16) (hi: -32768<=im/\im<=32767):Parts w pb co PC (R.getD a 0) (R.getD b 0) op a b im where
 ra W hW:=(aP pb co op a b im _ W ha ((h.below hW.below).regs a ha)).mono (fun e w' he=>⟨he.1,hW.next he.2⟩)
 rb W hW:=(aQ pb co op a b im _ W hb ((h.below hW.below).regs b hb)).mono (fun e w' he=>⟨he.1,hW.next he.2⟩)
 ri W hW:=(Nt op a b im W hi).mono (fun e w' he=>⟨he.1,hW.next he.2⟩)
 next W hW:=(Fj pb co PC W (h.below hW.below).pc).mono (fun e w' he=>⟨he.1,by rw [he.2];exact hW⟩)
 be W n hW:=(TW pb co op a b im n PC _ W ha (h.below hW.below).pc ((h.below hW.below).regs a ha) ((h.below hW.below).fz _)).mono (fun e w' he=>⟨he.1,by
  have hl:=h.lt
  have hc:=hW.c
  have hne:some w.heap.size≠some pb:=by simp;omega
  exact ⟨he.2.1.cell hc.1 hne,he.2.1.cell hc.2.1 hne,he.2.1.cell hc.2.2.1 hne,he.2.1.cell hc.2.2.2 hne⟩,he.2.of_below hW.below h.lt⟩)
end
end Go.Proofs.YtdchgbmliojoiaaGreatDoor
