import Derived.Test.YtpcjkidgohpeoaaGreatDoorG17
set_option maxRecDepth 100000
set_option maxHeartbeats 8000000
set_option linter.all false
namespace Go.Proofs.YtpcjkidgohpeoaaGreatDoor
open RowKit Proofs.Tryz
variable {w wr w' w'':World} {fb foff n r base size b a c d i g j:Nat} {FZ:List AQ} {LS:List Az} {f:AQ} {l:Az} {RS PL:List Nat} {e e':TypeId} {v v5 v6 v7 v8:Value} {xs vs sv:List Value} {row:Option Nat} {p:PK} {s:ByteArray} {ss:List ByteArray} {lp lf lo li lb:Int} {PS:List Pg}
structure Dz (w:World) (fb foff:Nat) (FZ:List AQ) (LS:List Az):Prop where
 len:LS.length=FZ.length
 at_:∀(i:Nat) (f:AQ) (l:Az),FZ[i]? =some f->LS[i]? =some l->w.cell? (xK fb (foff+i*3))=some (.string f.path)/\w.cell? (xK fb (foff+i*3+1))=some (.bool f.dir)/\w.cell? (xK fb (foff+i*3+2))=some (.slice l.a f.bytes.length l.c)/\(0<f.bytes.length->l.a=some (xK l.q l.o)/\l.q<w.heap.size)/\Am w l.q l.o f.bytes
def Dz.in (h:Dz w fb foff FZ LS):bV w fb foff FZ:=by
 have hl:∀(i:Nat) (f:AQ),FZ[i]? =some f->∃l,LS[i]? =some l:=λi f hf=>⟨_,zz (by rw [h.len];exact (zy.1 hf).1)⟩;refine ⟨λi f hf=> ?_,λi f hf=> ?_,λi f hf=> ?_⟩
 ·obtain ⟨l,hl⟩:=hl i f hf;exact (h.at_ i f l hf hl).1
 ·obtain ⟨l,hl⟩:=hl i f hf;exact (h.at_ i f l hf hl).2.1
 ·obtain ⟨l,hl⟩:=hl i f hf;obtain ⟨_,_,a,b,c⟩:=h.at_ i f l hf hl;exact ⟨l.a,l.q,l.o,l.c,a,b,c⟩
def Gw (FZ:List AQ) (n:Nat):List Value:=(FZ.take n).map (λf=> .string f.path)
def JJ (FZ:List AQ) (n:Nat):List Value:=(FZ.take n).map (λf=> .bool f.dir)
def Gx (FZ:List AQ) (LS:List Az) (n:Nat):List Value:=((FZ.zip LS).take n).map (λx=> .slice x.2.a x.1.bytes.length x.2.c)
def JK (f:AQ) (r:Nat):List Value:=[.string f.path,.bool f.dir,sL r 0 f.bytes.length (f.bytes.length+2)]
def EG (FZ:List AQ) (RS:List Nat) (n:Nat):List Value:=((FZ.zip RS).take n).flatMap (λx=>JK x.1 x.2)
def Ud (h:FZ[n]? =some f):Gw FZ (n+1)=Gw FZ n++[.string f.path]:=by
 unfold Gw;rw [uw,h];simp
def WV (h:FZ[n]? =some f):JJ FZ (n+1)=JJ FZ n++[.bool f.dir]:=by
 unfold JJ;rw [uw,h];simp
def Ue {α β:Type} {xs:List α} {ys:List β} {x:α} {y:β} (h:xs[n]? =some x) (k:ys[n]? =some y):(xs.zip ys)[n]? =some (x,y):=by
 rw [List.getElem?_zip_eq_some];exact ⟨h,k⟩
def Uf (h:FZ[n]? =some f) (k:LS[n]? =some l):Gx FZ LS (n+1)=Gx FZ LS n++[.slice l.a f.bytes.length l.c]:=by
 unfold Gx;rw [uw,Ue h k];simp
def Ug (h:FZ[n]? =some f) (k:RS[n]? =some r):EG FZ RS (n+1)=EG FZ RS n++JK f r:=by
 unfold EG;rw [uw,Ue h k];simp [ur]
def Uh (r:Nat) (hn:n<=RS.length):EG FZ (RS++[r]) n=EG FZ RS n:=by
 unfold EG;congr 1;show List.take n (List.zipWith Prod.mk FZ (RS++[r]))=List.take n (List.zipWith Prod.mk FZ RS);rw [List.take_zipWith,List.take_zipWith,xy hn]
def Pf (w:World) (row:Option Nat) (e:TypeId):Prop:=row=none\/∃g cur fr,row=some g/\w.heap[g]? =some (.cells cur e fr)
def CA (h:w.ownsRow base e size v n xs):Pf w v.ownBlock e:=by
 rcases h.2 with ⟨rfl,_⟩|⟨g,C,B,rfl,_,hg,_⟩
 ·exact .inl rfl
 ·exact .inr ⟨g,B,(0,0),rfl,hg⟩
def EQ (h:w.ownsRow base e size v n xs) (hr:Pf w row e') (C:e≠e'):v.ownBlock=none\/v.ownBlock≠row:=by
 rcases h.2 with ⟨rfl,_⟩|⟨g,F,E,rfl,_,hg,_⟩
 ·exact .inl rfl
 ·refine .inr (λhe=> ?_);rcases hr with rfl|⟨g',D,fr,rfl,B⟩
  ·simp [Value.ownBlock] at he
  ·simp [Value.ownBlock] at he;subst he;rw [hg] at B;simp at B;exact C B.2.1
def CJ (h:AE w b e vs) (hr:Pf w row e') (C:e≠e'):some b≠row:=by
 intro he;rcases hr with rfl|⟨g',D,fr,rfl,B⟩
 ·simp at he
 ·simp at he;subst he;unfold AE at h;rw [h] at B;simp at B;exact C B.2.1
structure DS (w wr:World) (sv:List Value) (FZ:List AQ) (LS:List Az) (RS:List Nat) (a b c d:Nat) (v5 v6 v7 v8:Value):Prop where
 s:AE wr w.heap.size 26 sv
 p:wr.ownsRow (w.heap.size+1) 9 1 v5 a (Gw FZ a)
 di:wr.ownsRow (w.heap.size+1) 4 1 v6 b (JJ FZ b)
 by_:wr.ownsRow (w.heap.size+1) 36 1 v7 c (Gx FZ LS c)
 fi:wr.ownsRow (w.heap.size+1) 39 3 v8 d (EG FZ RS d)
 rs:∀(i r:Nat) (f:AQ),RS[i]? =some r->FZ[i]? =some f->w.heap.size<r/\r<wr.heap.size/\AE wr r 5 (AF (f.bytes++[71,72]))
 inc:∀(i j r q:Nat),i<j->RS[i]? =some r->RS[j]? =some q->r<q
 bl:Bw w wr
def DS.move (h:DS w wr sv FZ LS RS a b c d v5 v6 v7 v8) (hb:Bw wr w'):DS w w' sv FZ LS RS a b c d v5 v6 v7 v8:=by
 have hg:wr.grownBy w' none:=⟨hb.os,hb.tape,hb.output,hb.size,λk hk _=>hb.block k hk⟩;have hn:∀v:Value,v.ownBlock=none\/v.ownBlock≠none:=λv=>by cases v.ownBlock<;>simp
 refine ⟨h.s.grown hg sI,h.p.kept hg (hn _),h.di.kept hg (hn _),h.by_.kept hg (hn _),h.fi.kept hg (hn _),λi r f hr hf=> ?_,h.inc,h.bl.trans (hb.mono h.bl.size)⟩;obtain ⟨x,y,z⟩:=h.rs i r f hr hf;exact ⟨x,o1 hb.size,z.grown hg sI⟩
def Mh (h:Bw w wr) (hg:wr.grownBy w' row) (hr:∀g,row=some g->w.heap.size+1<=g):Bw w w':=
 h.trans ⟨hg.os,hg.tape,hg.output,hg.size,λk hk=>hg.block k (o1 h.size) (λe=>o1 (hr k e.symm))⟩
def DS.app5 (h:DS w wr sv FZ LS RS a b c d v5 v6 v7 v8) (hg:wr.grownBy w' v5.ownBlock) (ho:w'.ownsRow (w.heap.size+1) 9 1 v (a+1) (Gw FZ (a+1))):DS w w' sv FZ LS RS (a+1) b c d v v6 v7 v8:=by
 have ht:=CA h.p;refine ⟨h.s.grown hg (CJ h.s ht dz),ho,h.di.kept hg (EQ h.di ht dz),h.by_.kept hg (EQ h.by_ ht dz),h.fi.kept hg (EQ h.fi ht dz),λi r f hr hf=> ?_,h.inc,Mh h.bl hg (λg he=>(h.p.lt g he).1)⟩;obtain ⟨x,y,z⟩:=h.rs i r f hr hf;exact ⟨x,o1 hg.size,z.grown hg (CJ z ht dz)⟩
def DS.app6 (h:DS w wr sv FZ LS RS a b c d v5 v6 v7 v8) (hg:wr.grownBy w' v6.ownBlock) (ho:w'.ownsRow (w.heap.size+1) 4 1 v (b+1) (JJ FZ (b+1))):DS w w' sv FZ LS RS a (b+1) c d v5 v v7 v8:=by
 have ht:=CA h.di;refine ⟨h.s.grown hg (CJ h.s ht dz),h.p.kept hg (EQ h.p ht dz),ho,h.by_.kept hg (EQ h.by_ ht dz),h.fi.kept hg (EQ h.fi ht dz),λi r f hr hf=> ?_,h.inc,Mh h.bl hg (λg he=>(h.di.lt g he).1)⟩;obtain ⟨x,y,z⟩:=h.rs i r f hr hf;exact ⟨x,o1 hg.size,z.grown hg (CJ z ht dz)⟩
def DS.app7 (h:DS w wr sv FZ LS RS a b c d v5 v6 v7 v8) (hg:wr.grownBy w' v7.ownBlock) (ho:w'.ownsRow (w.heap.size+1) 36 1 v (c+1) (Gx FZ LS (c+1))):DS w w' sv FZ LS RS a b (c+1) d v5 v6 v v8:=by
 have ht:=CA h.by_;refine ⟨h.s.grown hg (CJ h.s ht dz),h.p.kept hg (EQ h.p ht dz),h.di.kept hg (EQ h.di ht dz),ho,h.fi.kept hg (EQ h.fi ht dz),λi r f hr hf=> ?_,h.inc,Mh h.bl hg (λg he=>(h.by_.lt g he).1)⟩;obtain ⟨x,y,z⟩:=h.rs i r f hr hf;exact ⟨x,o1 hg.size,z.grown hg (CJ z ht dz)⟩
def DS.app8 (h:DS w wr sv FZ LS RS a b c d v5 v6 v7 v8) (hg:wr.grownBy w' v8.ownBlock) (ho:w'.ownsRow (w.heap.size+1) 39 3 v (d+1) (EG FZ RS (d+1))):DS w w' sv FZ LS RS a b c (d+1) v5 v6 v7 v:=by
 have ht:=CA h.fi;refine ⟨h.s.grown hg (CJ h.s ht dz),h.p.kept hg (EQ h.p ht dz),h.di.kept hg (EQ h.di ht dz),h.by_.kept hg (EQ h.by_ ht dz),ho,λi r f hr hf=> ?_,h.inc,Mh h.bl hg (λg he=>(h.fi.lt g he).1)⟩;obtain ⟨x,y,z⟩:=h.rs i r f hr hf;exact ⟨x,o1 hg.size,z.grown hg (CJ z ht dz)⟩
def DS.room (h:DS w wr sv FZ LS RS a b c d v5 v6 v7 v8) (hb:Bw wr w') (hd:d=RS.length) (hf:FZ[RS.length]? =some f) (hh:AE w' wr.heap.size 5 (AF (f.bytes++[71,72]))):DS w w' sv FZ LS (RS++[wr.heap.size]) a b c d v5 v6 v7 v8:=by
 have m:=h.move hb;refine ⟨m.s,m.p,m.di,m.by_,by rw [Uh _ om];exact m.fi,λi r g hr hg=> ?_,λi j r q B hr hq=> ?_,m.bl⟩
 ·rw [yq] at hr;split at hr
  ·exact m.rs i r g hr hg
  ·rename_i hi
   have D:i-RS.length=0:=by
    have:=(zy.1 hr).1;simp at this;omega
   have:i=RS.length:=om;subst this;have e:wr.heap.size=r:=sU hr;subst e;rw [hf] at hg;obtain rfl:=zr hg;exact ⟨o1 h.s.lt,hh.lt,hh⟩
 ·rw [yq] at hr hq;split at hr
  ·split at hq
   ·exact h.inc i j r q B hr hq
   ·rename_i hi hj
    have C:j-RS.length=0:=by
     have:=(zy.1 hq).1;simp at this;omega
    rw [C] at hq;have e:wr.heap.size=q:=sU hq;subst e;obtain ⟨g,hg⟩:∃g,FZ[i]? =some g:=⟨_,zz (o1 (zy.1 hf).1)⟩;exact (h.rs i r g hr hg).2.1
  ·rename_i hi
   split at hq
   ·omega
   ·have h1:=(zy.1 hr).1;have h2:=(zy.1 hq).1;simp at h1 h2;omega
def Kj (h:w.ownsRow base e size v n xs):∃a b c,v= .slice a n c/\(0<n->a=some (xK b 0)/\base<=b/\b<w.heap.size/\∀j u,xs[j]? =some u->w.cell? (xK b j)=some u):=by
 rcases h.2 with ⟨hv,h0⟩|⟨g,B,C,hv,hb,hg,_⟩
 ·subst h0;exact ⟨none,0,0,hv,λh=>om⟩
 ·refine ⟨some (xK g 0),g,B,hv,λh0=>⟨rfl,hb,(yo.1 hg).1,λj u hu=> ?_⟩⟩;have:=h.cells (g:=g) (by rw [hv];rfl) j u hu;rwa [Ah,zq] at this
def J5:∀(FZ:List AQ) (RS:List Nat) (n i c r:Nat) (f:AQ) (v:Value),i<n->FZ[i]? =some f->RS[i]? =some r->c<3->(JK f r)[c]? =some v->(EG FZ RS n)[i*3+c]? =some v
 |FZ,RS,0,i,c,r,f,v,h,_,_,_,_=>om
 |[],RS,n+1,i,c,r,f,v,_,h,_,_,_=>by simp at h
 |a::FZ,[],n+1,i,c,r,f,v,_,_,h,_,_=>by simp at h
 |a::FZ,b::RS,n+1,0,c,r,f,v,_,hf,hr,hc,hv=>by
  have e1:a=f:=sU hf;have e2:b=r:=sU hr;subst e1 e2;show (JK a b++EG FZ RS n)[0*3+c]? =_;rw [zo (by show 0*3+c<3;omega)]
  simpa using hv
 |a::FZ,b::RS,n+1,i+1,c,r,f,v,h,hf,hr,hc,hv=>by
  show (JK a b++EG FZ RS n)[(i+1)*3+c]? =_;rw [zn (by show 3<=(i+1)*3+c;omega),show (i+1)*3+c-(JK a b).length=i*3+c from by show (i+1)*3+c-3=_;omega];exact J5 FZ RS n i c r f v om (sU hf) (sU hr) hc hv
def Oe (h:FZ[i]? =some f):(Gw FZ FZ.length)[i]? =some (.string f.path):=by
 unfold Gw;rw [uh,ze,h];rfl
def Qs (h:FZ[i]? =some f):(JJ FZ FZ.length)[i]? =some (.bool f.dir):=by
 unfold JJ;rw [uh,ze,h];rfl
def Of (h:FZ[i]? =some f) (k:LS[i]? =some l):(Gx FZ LS FZ.length)[i]? =some (.slice l.a f.bytes.length l.c):=by
 unfold Gx;rw [ze,xq,vu (zy.1 h).1,Ue h k];rfl
def eJ {B:List Int} (h:AE w g 5 (AF (B++[71,72]))):Am w g 0 B:=λj hj=>by
 rw [zq];refine h.cell ?_;rw [AN _ _ sO];simp [List.getD,zo hj]
def Mi (FZ:List AQ) (RS:List Nat):List Az:=(FZ.zip RS).map (λx=>⟨some (xK x.2 0),x.2,0,x.1.bytes.length+2⟩)
def Ui (h:FZ[i]? =some f) (k:(Mi FZ RS)[i]? =some l):∃r,RS[i]? =some r/\l=⟨some (xK r 0),r,0,f.bytes.length+2⟩:=by
 unfold Mi at k;rw [ze] at k
 cases hz:(FZ.zip RS)[i]? with
 |none=>rw [hz] at k;cases k
 |some x=>
  rw [hz] at k;obtain ⟨h1,h2⟩:=List.getElem?_zip_eq_some.1 hz;rw [h] at h1;obtain rfl:=zr h1;exact ⟨x.2,h2,(zr k).symm⟩
def DS.handed {a:Option Addr} (h:DS w wr sv FZ LS RS FZ.length FZ.length FZ.length FZ.length v5 v6 v7 (.slice a FZ.length c)) (hr:RS.length=FZ.length)
  (hb:0<FZ.length->a=some (xK b 0)/\∀j u,(EG FZ RS FZ.length)[j]? =some u->wr.cell? (xK b j)=some u):Dz wr b 0 FZ (Mi FZ RS):=by
 refine ⟨by simp [Mi,List.length_zip,hr],λi f l hf hl=> ?_⟩;have hi:=(zy.1 hf).1;obtain ⟨r,B,rfl⟩:=Ui hf hl
 have hc:∀c v,c<3->(JK f r)[c]? =some v->wr.cell? (xK b (0+i*3+c))=some v:=λc v hc hv=>by
  rw [zq];exact (hb om).2 _ _ (J5 FZ RS FZ.length i c r f v hi hf B hc hv)
 obtain ⟨x,y,z⟩:=h.rs i r f B hf;exact ⟨hc 0 _ om rfl,hc 1 _ om rfl,hc 2 _ om rfl,λ_=>⟨rfl,y⟩,eJ z⟩
def ZF {pb db bb:Nat} (hf:Dz w fb foff FZ LS) (B:Bw w wr)
  (h5:∀(i:Nat) (f:AQ),FZ[i]? =some f->wr.cell? (xK pb i)=some (.string f.path)) (h6:∀(i:Nat) (f:AQ),FZ[i]? =some f->wr.cell? (xK db i)=some (.bool f.dir))
  (h7:∀(i:Nat) (f:AQ) (l:Az),FZ[i]? =some f->LS[i]? =some l->wr.cell? (xK bb i)=some (.slice l.a f.bytes.length l.c)):Pb wr pb 0 db 0 bb 0 FZ:=by
 refine ⟨λi f h=>by rw [zq];exact h5 i f h,λi f h=>by rw [zq];exact h6 i f h,λi f h=> ?_⟩;obtain ⟨l,hl⟩:∃l,LS[i]? =some l:=⟨_,zz (by rw [hf.len];exact (zy.1 h).1)⟩;obtain ⟨_,_,_,hq,hv⟩:=hf.at_ i f l h hl;refine ⟨l.a,l.q,l.o,l.c,by rw [zq];exact h7 i f l h hl,λh0=>⟨(hq h0).1,o2 (hq h0).2 B.size⟩,λj hj=> ?_⟩;rw [B.cell (p:=(xK l.q (l.o+j))) (hq om).2];exact hv j hj
structure FT (w w':World) (RS:List Nat) (j:Nat):Prop where
 os:w'.os=w.os
 tape:w'.tape=w.tape
 output:w'.output=w.output
 size:w.heap.size<=w'.heap.size
 block:∀k,k<w.heap.size->(∀(i r:Nat),i<j->RS[i]? =some r->k≠r)->w'.heap[k]? =w.heap[k]?
def FT.step (h:FT w w' RS j) (hr:RS[j]? =some r) (hg:w'.grownBy w'' (some r)):FT w w'' RS (j+1):=
 ⟨hg.os.trans h.os,hg.tape.trans h.tape,hg.output.trans h.output,zg h.size hg.size,λk hk B=>(hg.block k (o1 h.size) (by simp;exact B j r om hr)).trans (h.block k hk (λi q hi hq=>B i q om hq))⟩
def FT.holds {t:TypeId} (h:FT w w' RS j) (hh:AE w b t vs) (B:∀(i r:Nat),i<j->RS[i]? =some r->b≠r):AE w' b t vs:=by
 have hl:=hh.lt;unfold AE at hh ⊢;rw [h.block b hl B];exact hh
def FT.below {B:Nat} (h:FT w w' RS j) (hB:B<=w.heap.size) (hr:∀(i r:Nat),RS[i]? =some r->B<=r):Below B w w':=
 ⟨h.os,h.tape,h.output,h.size,λk hk=>h.block k om (λi r _ hi e=>o1 (hr i r hi))⟩
def FT.cell {o:Nat} (h:FT w w' RS j) (hc:cE w b o v) (B:∀(i r:Nat),i<j->RS[i]? =some r->b≠r):w'.cell? (xK b o)=some v:=by
 have hl:=zu w _ hc;rw [qy (a:=(xK b o)) (h.block b hl B)];exact hc
def Og {c:Int} (h:p.ExecErr PL i s ss c):c≠0:=by
 rcases h with ⟨h,rfl⟩|⟨_,(⟨_,rfl⟩|⟨_,(⟨_,rfl⟩|⟨_,(h|⟨_,(⟨_,rfl⟩|⟨_,_,rfl⟩)⟩)⟩)⟩)⟩
 ·exact h
 ·decide
 ·decide
 ·exact iO h
 ·decide
 ·decide
def LD {c d:Int} (h:p.ExecErr PL i s ss c) (k:p.ExecErr PL i s ss d):c=d:=by
 rcases h with ⟨a1,rfl⟩|⟨a1,(⟨a2,rfl⟩|⟨a2,(⟨a3,rfl⟩|⟨a3,(a4|⟨a4,(⟨a5,rfl⟩|⟨a5,a6,rfl⟩)⟩)⟩)⟩)⟩<;>
 rcases k with ⟨b1,rfl⟩|⟨b1,(⟨b2,rfl⟩|⟨b2,(⟨b3,rfl⟩|⟨b3,(b4|⟨b4,(⟨b5,rfl⟩|⟨b5,b6,rfl⟩)⟩)⟩)⟩)⟩<;>
 first|rfl|exact absurd b1 a1|exact absurd a1 b1|exact absurd b2 a2|exact absurd a2 b2|exact absurd (a3.symm.trans b3) dz|exact Bad.uniq a4 b4|exact (Bad.notGood a4 b4).elim|exact (Bad.notGood b4 a4).elim|exact absurd (a5.symm.trans b5) dz
def JL {c:Int} (h:p.ExecErr PL i s ss c) (k:p.ExecOk PL i s ss):False:=by
 obtain ⟨b1,b2,b3,b4,b5,b6⟩:=k;rcases h with ⟨a1,rfl⟩|⟨a1,(⟨a2,rfl⟩|⟨a2,(⟨a3,rfl⟩|⟨a3,(a4|⟨a4,(⟨a5,rfl⟩|⟨a5,a6,rfl⟩)⟩)⟩)⟩)⟩
 ·exact a1 b1
 ·exact b2 a2
 ·rw [a3] at b3;cases b3
 ·exact Bad.notGood a4 b4
 ·rw [a5] at b5;cases b5
 ·omega
def ZG {c:Int} (h:GR lp lf lo li lb FZ c):c≠0:=by
 rcases h with ⟨_,rfl⟩|⟨_,(⟨_,rfl⟩|⟨_,(⟨h,rfl⟩|⟨_,h⟩)⟩)⟩
 ·decide
 ·decide
 ·exact h
 ·exact Og h
def Uk {c d:Int} (h:GR lp lf lo li lb FZ c) (k:GR lp lf lo li lb FZ d):c=d:=by
 rcases h with ⟨a1,rfl⟩|⟨a1,(⟨a2,rfl⟩|⟨a2,(⟨a3,rfl⟩|⟨a3,a4⟩)⟩)⟩<;>rcases k with ⟨b1,rfl⟩|⟨b1,(⟨b2,rfl⟩|⟨b2,(⟨b3,rfl⟩|⟨b3,b4⟩)⟩)⟩<;>
 first|rfl|exact absurd b1 a1|exact absurd a1 b1|exact absurd b2 a2|exact absurd a2 b2|exact absurd b3 a3|exact absurd a3 b3|exact LD a4 b4
def J6 {c:Int} (h:GR lp lf lo li lb FZ c) (k:Fv lp lf lo li lb FZ):False:=by
 obtain ⟨b1,b2,b3,b4⟩:=k;rcases h with ⟨a1,rfl⟩|⟨a1,(⟨a2,rfl⟩|⟨a2,(⟨a3,rfl⟩|⟨a3,a4⟩)⟩)⟩
 ·exact a1 b1
 ·exact b2 a2
 ·exact a3 b3
 ·exact JL a4 b4
def BtA.below {k:RK} {cs:List (List Int)} {B gp pc gn cn:Nat} (h:BtA p w w' k cs g B gp pc gn cn) (hb:Bw w' w''):BtA p w w'' k cs g B gp pc gn cn:=by
 have hg:w'.grownBy w'' none:=⟨hb.os,hb.tape,hb.output,hb.size,λk hk _=>hb.block k hk⟩;exact ⟨h.toP,h.rep.below hb,h.cont.frame (Ao.ofBelow hb) h.rep.apart.1 h.rep.apart.2,h.inv,h.bytes,h.used,h.inos,h.last,h.pv,h.nils,h.ok,h.pages.kept hg (.inr (by simp [Value.ownBlock])),h.procs.kept hg (.inr (by simp [Value.ownBlock])),h.apart⟩
def J7 (lp lf lo li lb:Int) (FZ:List AQ) (KR:World->Nat->Addr->PK->Prop) (w:World) (e:Ending) (w':World):Prop:=
 Bw w w'/\((∃c,GR lp lf lo li lb FZ c/\e= .returned (.tuple #[.pointer none,.iface 40 (iV c)]))\/(Fv lp lf lo li lb FZ/\∃kp,e= .returned (.tuple #[.pointer (some kp),.nilIface])/\KR w' w.heap.size kp ((CP lp lf lo li lb).puts FZ).2))
def ik (KR:World->Nat->Addr->PK->Prop):Prop:=∀(w w':World) (B:Nat) (kp:Addr) (p:PK),KR w B kp p->w.heap.size<=w'.heap.size->(∀k,B<=k->k<w.heap.size->w'.heap[k]? =w.heap[k]?)->KR w' B kp p
def Mj (kv rv:Value):List Value:=[kv,rv,sN,sN,.bool false]
def WY (lp lf lo li lb:Int) (FZ:List AQ) (KR:World->Nat->Addr->PK->Prop) (w:World) (e:Ending) (w':World):Prop:=
 Bw w w'/\((∃c wp,c≠0/\e= .returned (.tuple #[wp,iV c,.bool true]))\/(Fv lp lf lo li lb FZ/\∃wb B kp W k cs g cap gp pc gn cn,e= .returned (.tuple #[qP wb 0,iV 0,.bool true])/\w.heap.size<=wb/\AE w' wb 47 (Mj (.pointer (some kp)) (qP (W.heap.size+1) 0))/\KR w' B kp ((CP lp lf lo li lb).puts FZ).2/\w.heap.size<=W.heap.size/\BtA ((CP lp lf lo li lb).puts FZ).2 W w' k cs g cap gp pc gn cn/\KR W B kp ((CP lp lf lo li lb).puts FZ).2/\Bw W w'/\(W.heap.size+1<wb/\gp<wb/\gn<wb)/\w.heap.size<=B/\B<=W.heap.size))
def il:(prog.info? 9).map (λi=>(i.zero,i.size,i.bytes))=some (some (.string ByteArray.empty),1,16):=kf
def im:(prog.info? 4).map (λi=>(i.zero,i.size,i.bytes))=some (some (.bool false),1,1):=kf
def lm:(prog.info? 36).map (λi=>(i.zero,i.size,i.bytes))=some (some sN,1,24):=kf
def WZ:(prog.info? 39).map (λi=>(i.zero,i.size,i.bytes))=some (some (.agg #[.string ByteArray.empty,.bool false,sN]),3,48):=kf
def Wb (n:Int) (w:World):cT 19 #[iV n] w λe w'=>e= .returned (iV n)/\w'=w:=by
 go_enter func19,ntmps19;go_wp2;go_ret;exact ⟨rfl,rfl⟩
def ZH:eN 17:=enters_of func17 kf rfl
def JM (h:Pf w (some b) e) (hr:AE w r 5 vs) (B:5≠e):b≠r:=λhe=>CJ hr h B (by rw [he])
def Wd (w:World) (t:TypeId) (v:Value):∀j u,[v][j]? =some u->(w.alloc (Obj.cells #[v] t)).cell? (((xK w.heap.size 0):Addr).add j)=some u:=λj u hj=>by
 rw [Ah,zq];exact (AE.new w t [v]).cell hj
def bW (w:World) (t:TypeId) (a b c:Value):∀j u,[a,b,c][j]? =some u->(w.alloc (Obj.cells #[a,b,c] t)).cell? (((xK w.heap.size 0):Addr).add j)=some u:=λj u hj=>by
 rw [Ah,zq];exact (AE.new w t [a,b,c]).cell hj
def io (lp lf lo li lb:Int) (fa:Option Addr) (fb foff B:Nat) (FZ:List AQ) (LS:List Az) (w:World) (n4:0<FZ.length->fa=some (xK fb foff)/\fb<w.heap.size) (hf:Dz w fb foff FZ LS) (hn:FZ.length<=100) (d9:(FZ.map (λf=>f.bytes.length)).sum<=200000) (n0:∀f∈FZ,f.path.size<=maxLen/\AK f.bytes)
  (hg:cE w 0 0 (.iface 204 (.agg #[qP 6 33]))) (u1:0<w.heap.size) (KR:World->Nat->Addr->PK->Prop) (p7:ik KR)
  (V:∀(w':World) (va:Option Addr) (vb vcap:Nat) (LS':List Az),Bw w w'->(0<FZ.length->va=some (xK vb 0)/\vb<w'.heap.size)->Dz w' vb 0 FZ LS'->cT 6 #[.agg #[iV lp,iV lf,iV lo,iV li,iV lb],.slice va FZ.length vcap] w' (J7 lp lf lo li lb FZ KR w')):
  cT 10 #[.agg #[iV lp,iV lf,iV lo,iV li,iV lb,.slice fa FZ.length B]] w (WY lp lf lo li lb FZ KR w):=by
 have HF:=AC hf;have n2:=AC n4;have s7:=AC n0;have Y:=AC d9;have HG:=AC hg;have p0:=AC V;have u0:Hid (Bw w (w.alloc (Obj.cells (Hz lp lf lo li lb (.slice fa FZ.length B)).toArray 26))):=bA
 have r8:=AC (show DS w (w.alloc (Obj.cells (Hz lp lf lo li lb (.slice fa FZ.length B)).toArray 26)) (Hz lp lf lo li lb (.slice fa FZ.length B)) FZ LS [] 0 0 0 0 sN sN sN sN from
  ⟨AE.new w 26 _,uy _ _ _ _,uy _ _ _ _,uy _ _ _ _,uy _ _ _ _,λi r f h=>by simp at h,λi j r q _ h=>by simp at h,AB u0⟩)
 obtain ⟨i1,p4,d5,b3,c6⟩:=DX il;have i0:=AC (xi p4 (xi d5 (xi b3 c6)));obtain ⟨i2,n9,f0,d8,c9⟩:=DX im;have i6:=AC (xi n9 (xi f0 (xi d8 c9)));obtain ⟨i3,o7,c8,d4,d6⟩:=DX lm;have i7:=AC (xi o7 (xi c8 (xi d4 d6)));obtain ⟨i4,q4,b2,f1,d7⟩:=DX WZ;have f4:=AC (xi q4 (xi b2 (xi f1 d7)));have k0:=AC p7;clear hf n4 n0 d9 hg V p7 p4 d5 b3 c6 n9 f0 d8 c9 o7 c8 d4 d6 q4 b2 f1 d7;go_enter func10,ntmps10;go_wp2
 go_loopw [5,6,7,8,9] (λv5 v6 v7 v8 i wr=>∃(j:Nat) (RS:List Nat),j<=FZ.length/\i= iV j/\RS.length=j/\Hid (DS w wr (Hz lp lf lo li lb (.slice fa FZ.length B)) FZ LS RS j j j j v5 v6 v7 v8)) (λ_ _ _ _ i _=>FZ.length-(intOf i).toNat)
 case atStart=>exact ⟨0,[],om,rfl,rfl,r8⟩
 case round=>
  obtain ⟨j,RS,hj,rfl,b9,HS⟩:=hrel;have c5:cE wr w.heap.size 5 (.slice fa FZ.length B):=HS.s.cell rfl;by_cases p5:j<FZ.length
  ·obtain ⟨f,hf⟩:∃f,FZ[j]? =some f:=⟨_,zz p5⟩;obtain ⟨l,hl⟩:∃l,LS[j]? =some l:=⟨_,zz (by rw [HF.len];exact p5)⟩;obtain ⟨rfl,f2⟩:=AB n2 om;obtain ⟨g0,g1,g2,g3,g4⟩:=HF.at_ j f l hf hl;have M:=HS.bl;have q3:=HS.s.lt;have d0:wr.cell? (xK fb (foff+j*3))=some (.string f.path):=by rw [M.cell (p:=(xK fb (foff+j*3))) f2];exact g0
   have d1:wr.cell? (xK fb (foff+j*3+1))=some (.bool f.dir):=by rw [M.cell (p:=(xK fb (foff+j*3+1))) f2];exact g1
   have d2:wr.cell? (xK fb (foff+j*3+2))=some (.slice l.a f.bytes.length l.c):=by rw [M.cell (p:=(xK fb (foff+j*3+2))) f2];exact g2
   have t0:(0:Int)<=(j:Int):=om;have r9:(j:Int)<(FZ.length:Int):=om
   have L:f.bytes.length<=1000000:=by
    have h1:=IN hf;have h2:=Gq FZ (j+1);have h3:=AB Y;omega
   have j5:=AC (λ(w':World) (hb:Bw w w')=>NC l.a l.q l.o l.c f.bytes w' (λh=>(g3 h).1) (by
     by_cases h0:0<f.bytes.length
     ·exact λk hk=>by rw [hb.cell (p:=(xK l.q (l.o+k))) (g3 h0).2];exact g4 k hk
     ·exact λk hk=>absurd hk om) (λh=>o2 (g3 h).2 hb.size) L)
   have q7:=AC (Ud hf);have p9:=AC (WV hf);have p2:=AC (Uf hf hl);have p8:=AC (xi hf hl);obtain ⟨PA,j4⟩:=xE f.path;obtain ⟨DI,j1⟩:=xE f.dir;obtain ⟨BL,j9⟩:=xE f.bytes.length;rw [<-j4] at d0 q7;rw [<-j1] at d1 p9;rw [<-j9] at d2 p2 j5 L;have t1:=AC (xi j4 (xi j1 j9));obtain ⟨W1,f8⟩:=xE (wr.alloc (Obj.cells #[.string PA,.bool DI,.slice l.a BL l.c] 39));have m3:Bw wr W1:=by rw [f8];exact bA
   have q6:AE W1 wr.heap.size 39 [.string PA,.bool DI,.slice l.a BL l.c]:=by rw [f8];exact AE.new wr 39 _
   have k1:=AC (HS.move m3);have f5:=AC q6;have r3:=AC f8;have u4:=m3.size;clear hf hl g0 g1 g2 g3 g4 M j4 j1 j9 f8 q6 m3
   go_upto_region 9 with fail
   rw [<-AB r3];clear d0 d1 d2;have x0:=f5.cell (j:=0) rfl;have i8:=AC (k1.p.alloc (Obj.cells #[.string PA] 9))
   go_upto_region 10 with (at_builtin;refine wpList_append_lies _ (by rfl) _ _ 49 (by rfl) (w.heap.size+1) 9 i1 _ 1 16 underlying49 i0.1 i0.2.1 i0.2.2.1 i0.2.2.2 rfl dz _ _ _ (by rfl) (AB i8) (xK W1.heap.size 0) 1 1 [.string PA] (by rfl) (by rfl) (Wd W1 _ _) (by intro u hu;simp only [vp,uu,or_false] at hu;subst hu;rfl) om (by unfold maxLen;omega) om sO (W1.heap.size+1) sI ?_;intro n5 k5 w2 T D k4 I)
   have a2:Bw W1 (W1.alloc (Obj.cells #[.string PA] 9)):=bA;have m0:=AC ((k1.move a2).app5 D (by rw [AB q7];exact T));have h4:=AC ((f5.alloc (Obj.cells #[.string PA] 9)).grown D (CJ (f5.alloc (Obj.cells #[.string PA] 9)) (CA i8) dz));have v0:W1.heap.size+1<=w2.heap.size:=by have:=D.size;simpa using this
   clear x0 T D k4 I i8 k1 f5 a2;have x1:=h4.cell (j:=1) rfl;have l1:=AC (m0.di.alloc (Obj.cells #[.bool DI] 4))
   go_upto_region 11 with (at_builtin;refine wpList_append_lies _ (by rfl) _ _ 64 (by rfl) (w.heap.size+1) 4 i2 _ 1 1 underlying64 i6.1 i6.2.1 i6.2.2.1 i6.2.2.2 rfl dz _ _ _ (by rfl) (AB l1) (xK w2.heap.size 0) 1 1 [.bool DI] (by rfl) (by rfl) (Wd w2 _ _) (by intro u hu;simp only [vp,uu,or_false] at hu;subst hu;rfl) om (by unfold maxLen;omega) om sO (w2.heap.size+1) sI ?_;intro n6 k6 w3 U C m1 l5)
   have a3:Bw w2 (w2.alloc (Obj.cells #[.bool DI] 4)):=bA;have G:=AC ((m0.move a3).app6 C (by rw [AB p9];exact U));have h9:=AC ((h4.alloc (Obj.cells #[.bool DI] 4)).grown C (CJ (h4.alloc (Obj.cells #[.bool DI] 4)) (CA l1) dz));have u2:w2.heap.size+1<=w3.heap.size:=by have:=C.size;simpa using this
   clear x1 U C m1 l5 l1 m0 h4 a3;have x2:=h9.cell (j:=2) rfl;have l2:=AC (G.by_.alloc (Obj.cells #[.slice l.a BL l.c] 36))
   go_upto_region 12 with (at_builtin;refine wpList_append_lies _ (by rfl) _ _ 65 (by rfl) (w.heap.size+1) 36 i3 _ 1 24 underlying65 i7.1 i7.2.1 i7.2.2.1 i7.2.2.2 rfl dz _ _ _ (by rfl) (AB l2) (xK w3.heap.size 0) 1 1 [.slice l.a BL l.c] (by rfl) (by rfl) (Wd w3 _ _) (by intro u hu;simp only [vp,uu,or_false] at hu;subst hu;rfl) om (by unfold maxLen;omega) om sO (w3.heap.size+1) sI ?_;intro n7 k7 w4 O E k3 l9)
   have a4:Bw w3 (w3.alloc (Obj.cells #[.slice l.a BL l.c] 36)):=bA;have j8:=AC ((G.move a4).app7 E (by rw [AB p2];exact O));have f9:=AC ((h9.alloc (Obj.cells #[.slice l.a BL l.c] 36)).grown E (CJ (h9.alloc (Obj.cells #[.slice l.a BL l.c] 36)) (CA l2) dz));have u6:w3.heap.size+1<=w4.heap.size:=by have:=E.size;simpa using this
   clear x2 O E k3 l9 l2 G h9 a4;have x2:=f9.cell (j:=2) rfl;have m8:=AC (AB j5 w4 j8.bl)
   go_wp2_with fail
   refine m8.mono ?_;rintro e w5 ⟨rfl,m4,F⟩;have i9:=AC (j8.room F (by rw [b9]) (by rw [b9];exact p8.1) m4);have j0:=AC (f9.below F f9.lt);have p6:=F.size
   have r7:=AC (show EG FZ (RS++[w4.heap.size]) (j+1)=EG FZ (RS++[w4.heap.size]) j++[.string PA,.bool DI,sL w4.heap.size 0 BL (BL+2)] from by
    rw [Ug p8.1 (show (RS++[w4.heap.size])[j]? =some w4.heap.size from by rw [<-b9];simp)];obtain ⟨e1,e2,e3⟩:=AB t1
    rw [e1,e2,e3];rfl)
   clear x2 m4 F m8 j8 f9 j5;have x0:=j0.cell (j:=0) rfl;have x1:=j0.cell (j:=1) rfl;have q2:=AC (i9.fi.alloc (Obj.cells #[.string PA,.bool DI,sL w4.heap.size 0 BL (BL+2)] 39))
   go_wp2_with (at_builtin;refine wpList_append_lies _ (by rfl) _ _ 24 (by rfl) (w.heap.size+1) 39 i4 _ 3 48 underlying24 f4.1 f4.2.1 f4.2.2.1 f4.2.2.2 rfl dz _ _ _ (by rfl) (AB q2) (xK w5.heap.size 0) 1 1 [.string PA,.bool DI,sL w4.heap.size 0 BL (BL+2)] (by rfl) (by rfl) (bW w5 _ _ _ _) (by intro u hu;simp only [vp,uu,or_false] at hu;rcases hu with rfl|rfl|rfl<;>rfl) om (by unfold maxLen;omega) om sO (w5.heap.size+1) sI ?_;intro n8 k8 w6 N J k2 l3)
   have a6:Bw w5 (w5.alloc (Obj.cells #[.string PA,.bool DI,sL w4.heap.size 0 BL (BL+2)] 39)):=bA;have t9:=AC ((i9.move a6).app8 J (by rw [AB r7];exact N));clear x0 x1 N J k2 l3 q2 i9 j0 a6
   go_roundw
   case rel=>exact ⟨j+1,RS++[w4.heap.size],om,by go_num,by simp [b9],t9⟩
   case measure=>simp [intOf];omega
  ·have m2:j=FZ.length:=om;subst m2;have t8:=CA HS.fi;have t5:=CA HS.p;have t6:=CA HS.di;have t7:=CA HS.by_;obtain ⟨a5,b5,k5,rfl,h5⟩:=Kj HS.p;obtain ⟨a6,b6,k6,rfl,h6⟩:=Kj HS.di;obtain ⟨a7,b7,k7,rfl,h7⟩:=Kj HS.by_;obtain ⟨a8,b8,k8,rfl,h8⟩:=Kj HS.fi;have M:=HS.bl;have q3:=HS.s.lt;have o5:∀(i r:Nat),RS[i]? =some r->∃f,FZ[i]? =some f:=λi r hr=>⟨_,zz (o1 (zy.1 hr).1)⟩
   have H:=AC (show ∀(i r:Nat),RS[i]? =some r->w.heap.size<r/\r<wr.heap.size/\b5≠r/\b6≠r/\b7≠r/\b8≠r from λi r hr=>by
    obtain ⟨f,hf⟩:=o5 i r hr;have h0:0<FZ.length:=o1 (zy.1 hf).1;obtain ⟨x,y,z⟩:=HS.rs i r f hr hf;have e5:=(h5 h0).1;have e6:=(h6 h0).1;have e7:=(h7 h0).1;have e8:=(h8 h0).1;subst e5 e6 e7 e8
    exact ⟨x,y,JM t5 z dz,JM t6 z dz,JM t7 z dz,JM t8 z dz⟩)
   have o4:=AC (AB p0 wr a8 b8 k8 _ M (λh=>⟨(h8 h).1,(h8 h).2.2.1⟩) (HS.handed b9 (λh=>⟨(h8 h).1,(h8 h).2.2.2⟩)));have H5:=AC h5;have H6:=AC h6;have H7:=AC h7;have H8:=AC h8;have q0:=AC M;have s0:cE wr w.heap.size 0 (iV lp):=HS.s.cell rfl;have s1:cE wr w.heap.size 1 (iV lf):=HS.s.cell rfl;have s2:cE wr w.heap.size 2 (iV lo):=HS.s.cell rfl;have s3:cE wr w.heap.size 3 (iV li):=HS.s.cell rfl;have s4:cE wr w.heap.size 4 (iV lb):=HS.s.cell rfl;clear t5 t6 t7 t8 h5 h6 h7 h8 M o5 p0
   go_wp2_with fail
   refine o4.mono ?_;rintro e w2 ⟨l0,m9⟩
   obtain ⟨c,kv,ev,rfl,R,c3⟩:∃c kv ev,e= .returned (.tuple #[kv,ev])/\(∀w',w'.cell? (xK 0 0)=some (.iface 204 (.agg #[qP 6 33]))->cT 8 #[ev] w' λe w''=>e= .returned (iV c)/\Bw w' w'')/\(GR lp lf lo li lb FZ c/\kv= .pointer none\/Fv lp lf lo li lb FZ/\c=0/\∃kp,kv= .pointer (some kp)/\KR w2 wr.heap.size kp ((CP lp lf lo li lb).puts FZ).2):=by
    rcases m9 with ⟨c,hc,rfl⟩|⟨hg,kp,rfl,hk⟩
    ·exact ⟨c,_,_,rfl,λw' h=>Ss c w' h,.inl ⟨hc,rfl⟩⟩
    ·exact ⟨0,_,_,rfl,λw' _=>Pt w',.inr ⟨hg,rfl,kp,rfl,hk⟩⟩
   have f3:Bw w w2:=q0.trans (l0.mono om);have o0:=AC (R w2 (by rw [f3.cell (p:=(xK 0 0)) u1];exact AB HG));have d3:=AC c3;have k9:=AC l0;clear m9 R c3 l0 f3 o4 s0 s1 s2 s3 s4 c5
   go_wp2_with fail
   refine o0.mono ?_;rintro e w3 ⟨rfl,f6⟩;have a0:Hid (Bw wr w3):=k9.trans (f6.mono k9.size);have G:=AC (HS.move a0)
   have q8:=AC (show GR lp lf lo li lb FZ c/\kv= .pointer none\/Fv lp lf lo li lb FZ/\c=0/\∃kp,kv= .pointer (some kp)/\KR w3 wr.heap.size kp ((CP lp lf lo li lb).puts FZ).2 from by
    rcases AB d3 with h|⟨hg,hc,kp,hk,hr⟩
    ·exact .inl h
    ·exact .inr ⟨hg,hc,kp,hk,AB k0 _ _ _ _ _ hr f6.size (λk _ c1=>f6.block k c1)⟩)
   obtain ⟨BB,l7⟩:=xE wr.heap.size;rw [<-l7] at q8 H;have r2:BB<=w3.heap.size:=by rw [l7];exact a0.size
   have l8:w.heap.size<=BB:=om;have r4:Hid (∀h:0<FZ.length,a8=some (xK b8 0)/\∀j u,(EG FZ RS FZ.length)[j]? =some u->w3.cell? (xK b8 j)=some u):=λh=>⟨(AB H8 h).1,λj u hu=>by rw [a0.cell (p:=(xK b8 j)) (AB H8 h).2.2.1];exact (AB H8 h).2.2.2 j u hu⟩;have t3:Hid (∀h:0<FZ.length,a5=some (xK b5 0)/\∀j u,(Gw FZ FZ.length)[j]? =some u->w3.cell? (xK b5 j)=some u):=λh=>⟨(AB H5 h).1,λj u hu=>by rw [a0.cell (p:=(xK b5 j)) (AB H5 h).2.2.1];exact (AB H5 h).2.2.2 j u hu⟩;have q9:Hid (∀h:0<FZ.length,a6=some (xK b6 0)/\∀j u,(JJ FZ FZ.length)[j]? =some u->w3.cell? (xK b6 j)=some u):=λh=>⟨(AB H6 h).1,λj u hu=>by rw [a0.cell (p:=(xK b6 j)) (AB H6 h).2.2.1];exact (AB H6 h).2.2.2 j u hu⟩
   have s8:Hid (∀h:0<FZ.length,a7=some (xK b7 0)/\∀j u,(Gx FZ LS FZ.length)[j]? =some u->w3.cell? (xK b7 j)=some u):=λh=>⟨(AB H7 h).1,λj u hu=>by rw [a0.cell (p:=(xK b7 j)) (AB H7 h).2.2.1];exact (AB H7 h).2.2.2 j u hu⟩;clear f6 o0 d3 k9 HS q0 H5 H6 H7 H8 l7 q3 a0;go_wp2
   go_loopw [15] (λi wq=>∃j:Nat,j<=FZ.length/\i= iV j/\Hid (FT w3 wq RS j)) (λi _=>FZ.length-(intOf i).toNat)
   case atStart=>exact ⟨0,om,rfl,AC ⟨rfl,rfl,rfl,zx _,λ_ _ _=>rfl⟩⟩
   case round=>
    obtain ⟨j,hj,rfl,HO⟩:=hrel;have u5:=HO.size;by_cases I:j<FZ.length
    ·obtain ⟨f,hf⟩:∃f,FZ[j]? =some f:=⟨_,zz I⟩;obtain ⟨l,hl⟩:∃l,LS[j]? =some l:=⟨_,zz (by rw [HF.len];exact I)⟩;obtain ⟨r,hr⟩:∃r,RS[j]? =some r:=⟨_,zz om⟩;obtain ⟨rfl,f2⟩:=AB n2 om;obtain ⟨rfl,o3⟩:=AB r4 om;obtain ⟨g0,g1,g2,g3,g4⟩:=HF.at_ j f l hf hl;obtain ⟨u7,u9,_,_,_,s6⟩:=AB H j r hr;have n3:=(G.rs j r f hr hf).2.2;have o9:∀(i q:Nat),i<j->RS[i]? =some q->r≠q:=λi q hi hq=>o1 (G.inc i j q r hi hq hr);have o8:=HO.holds n3 o9;have Z:Bw w wr:=G.bl.trans (HO.below (o1 G.bl.size) (λi q hq=>o1 (AB H i q hq).1));have t0:(0:Int)<=(j:Int):=om;have r9:(j:Int)<(FZ.length:Int):=om
     have L:f.bytes.length<=1000000:=by
      have h1:=IN hf;have h2:=Gq FZ (j+1);have h3:=AB Y;omega
     have L1:=AC (show ∀w',wr.grownBy w' (some r)->(Instr.loadAt 36 (qP b8 (j*3+2))).run prog w'= .ok (sL r 0 f.bytes.length (f.bytes.length+2)) w' from λw' h=>by
      have cc:cE w' b8 (j*3+2) (sL r 0 f.bytes.length (f.bytes.length+2)):=h.cell (HO.cell (o3 _ _ (J5 FZ RS FZ.length j 2 r f _ I hf hr om rfl)) (λi q _ hq=>(AB H i q hq).2.2.2.2.2)) (sU s6)
      go_simp)
     have L2:=AC (show ∀w',wr.grownBy w' (some r)->(Instr.loadAt 24 (qP w.heap.size 5)).run prog w'= .ok (sL fb foff FZ.length B) w' from λw' h=>by
      have cc:cE w' w.heap.size 5 (sL fb foff FZ.length B):=h.cell (HO.cell (G.s.cell rfl) (λi q _ hq=>o1 (AB H i q hq).1)) sO
      go_simp)
     have L3:=AC (show ∀w',wr.grownBy w' (some r)->(Instr.loadAt 36 (qP fb (foff+j*3+2))).run prog w'= .ok (.slice l.a f.bytes.length l.c) w' from λw' h=>by
      have cc:w'.cell? (xK fb (foff+j*3+2))=some (.slice l.a f.bytes.length l.c):=h.cell (by rw [Z.cell (p:=(xK fb (foff+j*3+2))) f2];exact g2) sO
      go_simp)
     have c0:=AC (ND r l.a l.q l.o l.c f.bytes wr.drew (o8.heap rfl) (λh=>(g3 h).1) (λk hk=>by
      have:wr.drew.cell? (xK l.q (l.o+k))=wr.cell? (xK l.q (l.o+k)):=rfl
      rw [this,Z.cell (p:=(xK l.q (l.o+k))) (g3 om).2];exact g4 k hk) L)
     have t2:=AC hr;have S0:wr.grownBy wr.drew (some r):=⟨rfl,rfl,rfl,zx _,λ_ _ _=>rfl⟩;clear hf hl hr g0 g1 g2 g3 g4 n3 o9 o8 Z o3
     go_upto_region 19 with fail
     refine Ak ?_;intro A hA;have e1:A.eval (.tmp 1)= qP w.heap.size 0:=eH hA;have e8:A.eval (.tmp 8)= sL b8 0 FZ.length k8:=eH hA;have s9:A.eval (.tmp 15)= iV j:=eH hA;have n1:A.tmps.size=129:=eZ hA;have HA:=AC hA;clear hA;refine xf (S:=λw'=>wr.grownBy w' (some r)) kf S0 (λhS=> ?_);refine tq 0 74 rfl (yM (sL b8 0 FZ.length k8)) hS (tq 1 75 rfl (yM (iV j)) hS (tq 2 76 rfl (yJ (sL b8 0 FZ.length k8) (iV j) (qP b8 (j*3))) hS (tq 3 77 rfl (yF (qP b8 (j*3)) (qP b8 (j*3+2))) hS (tq 4 78 rfl (yl L1) hS (tq 5 79 rfl (yF (qP w.heap.size 0) (qP w.heap.size 5)) hS ?_)))));refine tq 6 80 rfl (yl L2) hS (tq 7 81 rfl (yM (iV j)) hS ?_)
     refine tq 8 82 rfl (yJ (sL fb foff FZ.length B) (iV j) (qP fb (foff+j*3))) hS (tq 9 83 rfl (yF (qP fb (foff+j*3)) (qP fb (foff+j*3+2))) hS (tq 10 84 rfl (yl L3) hS ?_));refine rdy [11] kf (vq rfl (λK hK=> ?_) vr);refine JB rfl 17 78 84 _ _ rfl (sL r 0 f.bytes.length (f.bytes.length+2)) (.slice l.a f.bytes.length l.c) sE sE ZH _ (.bool true) (λe w' h=>h.1) c0 (some 85) rfl ?_;rintro w4 ⟨_,b0⟩;have S4:wr.grownBy w4 (some r):=⟨b0.os,b0.tape,b0.output,b0.size,b0.block⟩;refine hK.out _ _ S4 (λ_=> ?_);clear hK K;refine tq 12 16 rfl (Bm rfl (v:= .bool true) (λw' _=>by simp only [execOp];simp [Ae,AU,n1])) S4 ?_;refine vg kf ?_ _;rw [AB HA];simp only [Act.put,zl,zh,zi]
     have r1:=AC (HO.step t2 S4);clear b0 S4 HA e1 e8 s9 n1 L1 L2 L3 S0 hS c0;go_wp2
     go_roundw
     case rel=>exact ⟨j+1,om,by go_num,r1⟩
     case measure=>simp [intOf];omega
    ·have m2:j=FZ.length:=om;subst m2;have Z:Bw w wr:=G.bl.trans (HO.below (o1 G.bl.size) (λi q hq=>o1 (AB H i q hq).1));have b1:∀(i:Nat) (v:Value),(Hz lp lf lo li lb (.slice fa FZ.length B))[i]? =some v->wr.cell? (xK w.heap.size i)=some v:=λi v hv=>HO.cell (G.s.cell hv) (λi q _ hq=>o1 (AB H i q hq).1);have s0:=b1 0 _ rfl;have s1:=b1 1 _ rfl;have s2:=b1 2 _ rfl;have s3:=b1 3 _ rfl;have s4:=b1 4 _ rfl;obtain ⟨W5,g8⟩:=xE (wr.alloc (Obj.cells #[iV lp,iV lf,iV lo,iV li,iV lb] 68));have F:Bw wr W5:=by rw [g8];exact bA
     have X:AE W5 wr.heap.size 68 [iV lp,iV lf,iV lo,iV li,iV lb]:=by rw [g8];exact AE.new wr 68 _
     have a1:Bw w W5:=Z.trans (F.mono Z.size)
     obtain ⟨pb,db,bb,b4,c2,c4⟩:∃pb db bb,(pb<W5.heap.size/\db<W5.heap.size/\bb<W5.heap.size)/\(0<FZ.length->a5=some (xK pb 0)/\a6=some (xK db 0)/\a7=some (xK bb 0))/\Pb W5 pb 0 db 0 bb 0 FZ:=by
      have u8:=X.lt;by_cases h0:0<FZ.length
      ·obtain ⟨x5,y5⟩:=AB t3 h0;obtain ⟨x6,y6⟩:=AB q9 h0;obtain ⟨x7,y7⟩:=AB s8 h0
       have m5:∀j u,(Gw FZ FZ.length)[j]? =some u->W5.cell? (xK b5 j)=some u:=λj u hu=>by
        have:=HO.cell (y5 j u hu) (λi q _ hq=>(AB H i q hq).2.2.1);rw [F.cell (p:=(xK b5 j)) (zu wr _ this)];exact this
       have m6:∀j u,(JJ FZ FZ.length)[j]? =some u->W5.cell? (xK b6 j)=some u:=λj u hu=>by
        have:=HO.cell (y6 j u hu) (λi q _ hq=>(AB H i q hq).2.2.2.1);rw [F.cell (p:=(xK b6 j)) (zu wr _ this)];exact this
       have m7:∀j u,(Gx FZ LS FZ.length)[j]? =some u->W5.cell? (xK b7 j)=some u:=λj u hu=>by
        have:=HO.cell (y7 j u hu) (λi q _ hq=>(AB H i q hq).2.2.2.2.1);rw [F.cell (p:=(xK b7 j)) (zu wr _ this)];exact this
       obtain ⟨f,hf⟩:∃f,FZ[0]? =some f:=⟨_,zz h0⟩;obtain ⟨l,hl⟩:∃l,LS[0]? =some l:=⟨_,zz (by rw [HF.len];exact h0)⟩;refine ⟨b5,b6,b7,⟨zu W5 _ (m5 0 _ (Oe hf)),zu W5 _ (m6 0 _ (Qs hf)),zu W5 _ (m7 0 _ (Of hf hl))⟩,λ_=>⟨x5,x6,x7⟩,?_⟩;exact ZF HF a1 (λi f hf=>m5 i _ (Oe hf)) (λi f hf=>m6 i _ (Qs hf)) (λi f l hf hl=>m7 i _ (Of hf hl))
      ·have j6:FZ=[]:=uz om;subst j6;exact ⟨0,0,0,⟨om,om,om⟩,λh=>absurd h h0,⟨λi f h=>by simp at h,λi f h=>by simp at h,λi f h=>by simp at h⟩⟩
     have p3:=AC (WX lp lf lo li lb a5 a6 a7 pb 0 k5 db 0 k6 bb 0 k7 FZ W5 hn Y c2 c4 b4 s7);have l6:=AC a1;have r5:=AC g8;have z0:=X.cell (j:=0) rfl;have z1:=X.cell (j:=1) rfl;have z2:=X.cell (j:=2) rfl;have z3:=X.cell (j:=3) rfl;have z4:=X.cell (j:=4) rfl;have s5:BB<=wr.heap.size:=om;have j7:BB<=W5.heap.size:=o1 F.size
     have o6:=AC (show GR lp lf lo li lb FZ c/\kv= .pointer none\/Fv lp lf lo li lb FZ/\c=0/\∃kp,kv= .pointer (some kp)/\KR W5 BB kp ((CP lp lf lo li lb).puts FZ).2 from by
      rcases AB q8 with h|⟨hg,hc,kp,hk,hr⟩
      ·exact .inl h
      ·refine .inr ⟨hg,hc,kp,hk,AB k0 _ _ _ _ _ hr (o1 F.size) (λk t4 c1=> ?_)⟩;rw [F.block k om]
       exact HO.block k c1 (λi q _ hq=>o1 (AB H i q hq).2.1))
     clear Z b1 F X a1 b4 c2 c4 g8 HO
     go_upto_region 23 with fail
     rw [<-AB r5];clear s0 s1 s2 s3 s4
     go_wp2_with fail
     refine p3.mono ?_;rintro e w7 ⟨a9,l4⟩;have g9:=AC (l6.trans (a9.mono l6.size));clear z0 z1 z2 z3 z4 p3;rcases l4 with ⟨c7,g6,rfl⟩|⟨q5,rfl,r6,cs,g7,j2,gp,pc,gn,cn,f7⟩
     ·rcases AB o6 with ⟨g5,rfl⟩|⟨hg,_⟩
      case inr=>exact (J6 g6 hg).elim
      obtain rfl:=Uk g6 g5;have j3:=ZG g6;have u3:(c7 !=0)=true:=sU j3;have r0:=AC j3;clear j3 g6 g5 a9;unfold Js
      go_wp2_with (go_at_call 19;refine (Wb _ _).mono ?_;rintro e w8 ⟨rfl,rfl⟩)
      exact xh (v:= .tuple #[qP w8.heap.size 0,iV c7,.bool true]) (by simp [results,results10,go_sem]) rfl ⟨g9.alloc g9.size _,.inl ⟨c7,_,AB r0,rfl⟩⟩
     ·rcases AB o6 with ⟨g5,rfl⟩|⟨hg,rfl,kp,rfl,p1⟩
      case inl=>exact (J6 g5 q5).elim
      unfold Qb
      go_wp2_with (go_at_call 19;refine (Wb _ _).mono ?_;rintro e w8 ⟨rfl,rfl⟩)
      have q1:=g9.size;have p6:=l6.size;have i5:Bw w8 (w8.alloc (Obj.cells (Mj (.pointer (some kp)) (qP (W5.heap.size+1) 0)).toArray 47)):=bA
      exact xh (v:= .tuple #[qP w8.heap.size 0,iV 0,.bool true]) (by simp [results,results10,go_sem]) rfl ⟨g9.alloc q1 _,.inr ⟨q5,w8.heap.size,BB,kp,W5,r6,cs,g7,j2,gp,pc,gn,cn,rfl,q1,AE.new w8 47 (Mj (.pointer (some kp)) (qP (W5.heap.size+1) 0)),
       AB k0 _ _ _ _ _ p1 (by have h1:=a9.size;have h2:=i5.size;exact zg h1 h2) (λk t4 c1=>by have h1:=a9.size;exact (i5.block k om).trans (a9.block k c1)),p6,f7.below i5,p1,a9.trans (i5.mono a9.size),⟨f7.rep.1.lt,(f7.procs.lt gp rfl).2,(f7.pages.lt gn rfl).2⟩,l8,j7⟩⟩
def Fy (n:Nat):Pg:=⟨n,6,An⟩
def DE (PS:List Pg):List Pg:=PS.filter (λp=>decide (p.num<254))
def Lu (PS:List Pg):List Pg:=PS.filter (λp=> !decide (p.num<254))
def EK (a n:Nat):List Pg:=(List.range n).map (λi=>Fy (a+i))
def Cp (PS:List Pg) (a n:Nat):List Pg:=DE PS++(EK a n++Lu PS)
def CN (PS:List Pg):Nat->Nat
 |0=>0
 |n+1=>if DR PS n=0 then CN PS n else n+1
def Lv (PS:List Pg):∀n,CN PS n<=n
 |0=>zx 0
 |n+1=>by
  unfold CN;split
  ·exact Nat.le_succ_of_le (Lv PS n)
  ·exact zx _
def Zd (h:Bc PS) {p:Pg} (hp:p∈PS) (hn:p.num=n):DR PS n≠0:=by
 rcases Gr h n with ⟨_,h2⟩|⟨h1,_⟩
 ·have:=xm.1 h2 p hp;simp [hn] at this
 ·omega
def Kp {PS:List Pg} (h:Bc PS):∀(n:Nat) (p:Pg),p∈PS->p.num<(n:Int)->p.num<(CN PS n:Int)
 |0,p,hp,hl=>o1 (h.each p hp).1
 |n+1,p,hp,hl=>by
  unfold CN;split
  ·rename_i h0
   refine Kp h n p hp ?_;have:p.num≠n:=λe=>Zd h hp e h0;omega
  ·exact hl
def Mu:∀{PS:List Pg},PS.Pairwise (λp q=>p.num<q.num)->DE PS++Lu PS=PS
 |[],_=>rfl
 |a::r,hs=>by
  obtain ⟨ha,hr⟩:=se.1 hs;have ih:=Mu hr;unfold DE Lu at ih ⊢;by_cases hl:a.num<254
  ·rw [tg (sU hl),ua (sU hl),List.cons_append,ih]
  ·rw [ua (sU hl),tg (sU hl),tp.2 (λq hq=>by have:=ha q hq;simp;omega),qu.2 (λq hq=>by have:=ha q hq;simp;omega)];rfl
def KF (a n:Nat):EK a (n+1)=EK a n++[Fy (a+n)]:=by unfold EK;rw [qf,xj];rfl
def GH {p:Pg} (h:p∈EK a n):∃i,i<n/\p=Fy (a+i):=by
 unfold EK at h;obtain ⟨i,hi,rfl⟩:=yt.1 h;exact ⟨i,zf.1 hi,rfl⟩
def Xc (h:Bc PS) (a:Nat):Cp PS a 0=PS:=Mu h.sorted
def RT (h:Bc PS) (a n:Nat):(Cp PS a n).length=PS.length+n:=by
 have:=congrArg List.length (Mu h.sorted);unfold Cp EK;simp at this ⊢;omega
def Kq (h:Bc PS) (hl:∀p∈PS,p.num<254->p.num<(a:Int)) (hn:a+n<=254):Bc (Cp PS a n):=by
 have h1:∀p∈DE PS,p∈PS/\p.num<254:=λp hp=>by have:=vk.1 hp;exact ⟨this.1,by simpa using this.2⟩
 have h2:∀p∈Lu PS,p∈PS/\254<=p.num:=λp hp=>by have:=vk.1 hp;exact ⟨this.1,by simpa using this.2⟩
 refine ⟨?_,λp hp=> ?_⟩
 ·unfold Cp;rw [ud,ud];refine ⟨h.sorted.filter _,⟨?_,h.sorted.filter _,λp hp q hq=> ?_⟩,λp hp q hq=> ?_⟩
  ·unfold EK;refine List.Pairwise.map _ (λi j C=> ?_) List.pairwise_lt_range;show ((a+i:Nat):Int)<((a+j:Nat):Int);omega
  ·obtain ⟨i,hi,rfl⟩:=GH hp;have:=(h2 q hq).2;show ((a+i:Nat):Int)<q.num;omega
  ·have B:=h1 p hp;have:=hl p B.1 B.2;rcases vo.1 hq with hq|hq
   ·obtain ⟨i,hi,rfl⟩:=GH hq;show p.num<((a+i:Nat):Int);omega
   ·have:=(h2 q hq).2;omega
 ·unfold Cp at hp;rcases vo.1 hp with hp|hp
  ·exact h.each p (h1 p hp).1
  ·rcases vo.1 hp with hp|hp
   ·obtain ⟨i,hi,rfl⟩:=GH hp;refine ⟨?_,?_,show (1:Int)<=6 by decide,show (6:Int)<=255 by decide,AT⟩
    ·show (0:Int)<=((a+i:Nat):Int);omega
    ·show ((a+i:Nat):Int)<256;omega
   ·exact h.each p (h2 p hp).1
def jT (h:Bc PS) (hl:∀p∈PS,p.num<254->p.num<(a:Int)) (hn:a+i<254):splice (AW (Cp PS a i)) ((a+i)*257) (Bi (Fy (a+i)))=AW (Cp PS a (i+1)):=by
 have B:=Kq h (n:=i) hl om;refine OM _ _ 257 256 (a+i) _ (λj _=>FC (λq hq=>(B.each q hq).2.2.2.2) j) (CX AT) om ?_ (λj hj C=> ?_)
 ·unfold Cx Cp
  rw [KF,re,re,re,show (DE PS).find? (λq=>q.num==((a+i:Nat):Int))=none from xm.2 (λq hq=>by
   have h1:=vk.1 hq;have:=hl q h1.1 (sU h1.2);simp;omega),show (EK a i).find? (λq=>q.num==((a+i:Nat):Int))=none from xm.2 (λq hq=>by
   obtain ⟨k,hk,rfl⟩:=GH hq;show ¬(((a+k:Nat):Int)==((a+i:Nat):Int))=true
   simp;omega),List.find?_cons_of_pos (by show (((a+i:Nat):Int)==((a+i:Nat):Int))=true;simp)]
  rfl
 ·unfold Cx Cp
  rw [KF,re,re,re,re,re,show [Fy (a+i)].find? (λq=>q.num==(j:Int))=none from xm.2 (λq hq=>by
   simp at hq;subst hq;show ¬(((a+i:Nat):Int)==(j:Int))=true
   simp;omega)]
  simp
def Ze (n:Nat):zeroCells183.setIfInBounds 0 (.int .u8 6)=(Bi (Fy n)).toArray:=kf
def Xd (S T c:List Value) (o:Nat) (h:o+c.length<=S.length):splice (S++T) o c=splice S o c++T:=by
 unfold splice;rw [xy om,List.drop_append_of_le_length om];simp
def fA (pb so:Nat) (PS:List Pg) (w:World) (D:Bc PS) (hc:∀j:Nat,j<256->w.cell? (xK pb (so+j*257))=some (.int .u8 (DR PS j))):
  cT 303 #[qP pb so] w λe w'=>e= .returned (iV (CN PS 254:Nat))/\w'=w:=by
 have HC:=AC hc;clear hc D;obtain ⟨BR,C⟩:=xE (CN PS 254);rw [<-C];have E:=AC C;clear C;go_enter func303,ntmps303;go_wp2
 go_loopw [3] (λi wr=>∃j:Nat,j<=254/\i= iV j/\wr=w/\Hid (BR=CN PS j)) (λi _=>(intOf i).toNat)
 case atStart=>exact ⟨254,om,rfl,rfl,E⟩
 case round=>
  obtain ⟨j,hj,rfl,rfl,HJ⟩:=hrel
  cases j with
  |zero=>
   have he:BR=0:=AB HJ;subst he;go_wp2;go_ret
   exact ⟨rfl,rfl⟩
  |succ k=>
   have B:=AB HC k om;have k0:(0:Int)<=(k:Int):=om;have k1:(k:Int)<256:=om;obtain ⟨v,hv⟩:=xE (DR PS k);rw [<-hv] at B;by_cases h0:v=0
   ·subst h0;have HE:Hid (BR=CN PS k):=HJ.trans (vu hv.symm);clear hv;go_wp2;exact ⟨⟨k,om,sI,trivial,HE⟩,by simp only [intOf];omega⟩
   ·have HE:Hid (BR=k+1):=HJ.trans (vz (by rw [<-hv];exact h0));have q0:(v==0)=false:=sU h0;clear hv;go_wp2;go_ret;exact ⟨by rw [AB HE];rfl,rfl⟩
end Go.Proofs.YtpcjkidgohpeoaaGreatDoor
