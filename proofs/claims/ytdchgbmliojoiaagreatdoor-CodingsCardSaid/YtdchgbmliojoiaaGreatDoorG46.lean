import Derived.Test.YtdchgbmliojoiaaGreatDoorG41
import Derived.Test.YtdchgbmliojoiaaGreatDoorG43
import Derived.Test.YtdchgbmliojoiaaGreatDoorG44
import Derived.Test.YtdchgbmliojoiaaGreatDoorCards
import Derived.Test.YtdchgbmliojoiaaGreatDoorG45
import Derived.HandedShaped
import Derived.Shelf.Vars
set_option maxRecDepth 100000
set_option linter.unusedVariables false
set_option linter.unusedSimpArgs false
namespace Go.Proofs.YtdchgbmliojoiaaGreatDoor
section
open Go Go.RowKit Go.Maps
structure OJ (C tb ab am:Nat) (NB MB:List Nat) (V:List Value):Prop where
 tb:tb<C
 ab:ab<C
 am:am<C
 nb:∀b∈NB,b<C
 mb:∀m∈MB,m<C
 v:∀(i:Nat) (v:Value) (R:Nat),V[i]? =some v->Dm v=some R->R<C
theorem E8 {w:World} {a b:Nat} {t u:TypeId} {vs us:List Value} (h:AG w a t vs) (h2:AG w b u us) (hne:t≠u):a≠b:=by
 rintro rfl
 unfold AG at h h2
 rw [h] at h2
 simp at h2
 exact hne h2.2
theorem Wj {w:World} {m b n:Nat} {f:ByteArray->Option Nat} {u:TypeId} {us:List Value} (h:Ao w m n f) (h2:AG w b u us):m≠b:=by
 rintro rfl
 obtain ⟨D,⟨es,clock,hb,_⟩,_⟩:=h
 unfold AG at h2
 rw [hb] at h2
 cases h2
theorem BY.kept2 {w w':World} {B C tb ab am pb:Nat} {p:PK} {NB MB:List Nat} {V row:List Value} (h:BY w B tb ab am p NB MB V) (hC:OJ C tb ab am NB MB V) (hp:AG w pb 195 row) (hs:w.heap.size<=w'.heap.size) (hk:∀k,B<=k->k<C->k≠pb->w'.heap[k]? =w.heap[k]?):BY w' B tb ab am p NB MB V:=by
 have hl:=h.tree.low
 refine ⟨⟨Ab h.tree.tree (hk _ hl.1 hC.tb (E8 h.tree.tree hp (by decide))),Ab h.tree.above (hk _ hl.2.1 hC.ab (E8 h.tree.above hp (by decide))),h.tree.amap.block (hk _ hl.2.2.1 hC.am (Wj h.tree.amap hp)),h.tree.len,fun i x b m hx hb hm=> ?_,h.tree.root,h.tree.vlen,h.tree.apart,hl.1,hl.2.1,hl.2.2.1,hl.2.2.2.1,fun m hm=>⟨(hl.2.2.2.2 m hm).1,by have:=(hl.2.2.2.2 m hm).2;omega⟩⟩,fun i v c hv hc=> ?_,h.own⟩
 ·obtain ⟨qn,v,mv,h1,h2,h3⟩:=h.tree.node i x b m hx hb hm
  refine ⟨qn,v,mv,Ab h1 (hk _ (hl.2.2.2.1 b (zv hb)) (hC.nb b (zv hb)) (E8 h1 hp (by decide))),fun hd=>⟨(h2 hd).1,(h2 hd).2.block (hk _ (hl.2.2.2.2 m (zv hm)).1 (hC.mb m (zv hm)) (Wj (h2 hd).2 hp))⟩,h3⟩
 ·rcases h.cont i v c hv hc with q|⟨R,cp,T,q1,q2,q3,q4,q5⟩
  ·exact .inl q
  ·exact .inr ⟨R,cp,T,q1,Ab q2 (hk R q5 (hC.v i v R hv (by rw [q1];rfl)) (E8 q2 hp (by decide))),q3,q4,q5⟩
def Rg (p:AP):Prop:=p.le=0/\((p.st=0/\p.F=[-1, -1, -1,0,0,0,0,0]/\0<p.PS.length/\As p.PS)\/(p.st=2/\p.F=RH/\p.PS=[]))
structure Wk (w:World) (B C kb:Nat) (P:PK) (p:AP) (tb ab am cb pm pb:Nat) (NB MB:List Nat) (V:List Value):Prop where
 tree:BY w B tb ab am P NB MB V
 high:OJ C tb ab am NB MB V
 ker:AG w kb 112 (EQ P.lp P.lf P.lo P.li P.lb tb cb pm)
 procs:A6 w pm pb
 con:AG w cb 103 Vb
 proc:AG w pb 195 (CT p 0 (MR p cb))
 low:B<=kb/\B<=cb/\B<=pm/\B<=pb
 top:kb<C/\cb<C/\pm<C/\pb<C
 inv:Bo P
 size:P.xs.length<=101/\AU P.cs<=200000/\CC P.cs
 state:Rg p
 err:w.cell? (pK 0 0)=some (.iface 206 (.agg #[pq 6 41]))
 erl:0<B
def KR2 (w:World) (B C:Nat) (kp:Addr) (P:PK) (p:AP):Prop:=∃tk kb tb ab am cb pm pb NB MB V,kp=(pK tk 0)/\B<=tk/\tk<C/\AG w tk 62 [pq kb 0]/\Wk w B C kb P p tb ab am cb pm pb NB MB V
theorem OL {w:World} {pm pb b:Nat} {t:TypeId} {vs:List Value} (h:A6 w pm pb) (hp:AG w b t vs):pm≠b:=by
 rintro rfl
 obtain ⟨es,clock,hb,_⟩:=h
 unfold AG at hp
 rw [hb] at hp
 cases hp
theorem Wk.kept {w w':World} {B C kb:Nat} {P:PK} {p q:AP} {tb ab am cb pm pb:Nat} {NB MB:List Nat} {V:List Value} (h:Wk w B C kb P p tb ab am cb pm pb NB MB V) (hs:w.heap.size<=w'.heap.size) (hk:∀k,k<C->k≠pb->w'.heap[k]? =w.heap[k]?) (hp:AG w' pb 195 (CT q 0 (MR q cb))) (hq:Rg q):Wk w' B C kb P q tb ab am cb pm pb NB MB V:=by
 have hl:=h.low
 have ht:=h.top
 have he:=h.erl
 refine ⟨h.tree.kept2 h.high h.proc hs (fun k _ h1 h2=>hk k h1 h2),h.high,Ab h.ker (hk _ ht.1 (E8 h.ker h.proc (by decide))),h.procs.block (hk _ ht.2.2.1 (OL h.procs h.proc)),Ab h.con (hk _ ht.2.1 (E8 h.con h.proc (by decide))),hp,hl,ht,h.inv,h.size,hq,?_,he⟩
 have e:=hk 0 (by omega) (by omega)
 unfold World.cell? at*
 rw [e]
 exact h.err
theorem OM (w w':World) (B C:Nat) (kp:Addr) (P:PK) (p:AP) (h:KR2 w B C kp P p) (hs:w.heap.size<=w'.heap.size) (hk:∀b,b<C->w'.heap[b]? =w.heap[b]?):KR2 w' B C kp P p:=by
 obtain ⟨tk,kb,tb,ab,am,cb,pm,pb,NB,MB,V,h1,h2,h3,h4,h5⟩:=h
 exact ⟨tk,kb,tb,ab,am,cb,pm,pb,NB,MB,V,h1,h2,h3,Ab h4 (hk _ h3),h5.kept hs (fun k h _=>hk k h) (Ab h5.proc (hk _ h5.top.2.2.2)) h5.state⟩
theorem Rh {w w':World} {pb:Nat} {row:List Value} (hp:AG w pb 195 row) (hg:w.grownBy w' (some pb)):Gu w w':=fun b vs hv=>Ab hv (hg.block b hv.lt (by have:=E8 hv hp (by decide);simpa using this))
theorem Yu (p:AP) (h:∀s,Au p≠p.ended s):(Au p).F=p.F/\(Au p).PS.length=p.PS.length/\(Au p).le=p.le:=by
 unfold Au at h ⊢
 split
 ·rename_i h0
  exact absurd (by rw [if_pos h0]) (h (AH p.PS p.pc).2)
 rename_i h0
 split
 ·exact ⟨rfl,rfl,rfl⟩
 rename_i ha
 split
 ·split
  ·rename_i hm he
   exact absurd (by rw [if_neg h0];simp only [ha];rw [if_pos (by assumption),he]) (h 131)
  ·rename_i q hq
   unfold FA at hq
   split at hq
   ·split at hq
    ·cases hq;exact ⟨rfl,rfl,rfl⟩
    ·cases hq;exact ⟨rfl,JM (E6 _ _ _ _),rfl⟩
   ·cases hq
 ·exact ⟨rfl,rfl,rfl⟩
theorem bq (w:World) (B C:Nat) (kp:Addr) (P:PK) (p:AP) (h:KR2 w B C kp P p) (hc:Can p) (hst:p.st=0) (h24:(AH p.PS p.pc).2=0->(AH p.PS p.pc).1.op≠24) (hC:C<=w.heap.size):Calls Tryz.prog 51 #[.pointer (some kp),.int .i64 1] w fun e w'=>e= .returned .nilIface/\(KR2 w' B C kp P (Au p)/\Gu w w')/\Cl w w' B C:=by
 obtain ⟨tk,kb,tb,ab,am,cb,pm,pb,NB,MB,V,rfl,h2,h3,h4,h5⟩:=h
 have hl:=h5.low
 have ht:=h5.top
 have hs:p.F=[-1, -1, -1,0,0,0,0,0]/\0<p.PS.length/\As p.PS:=by
  rcases h5.state.2 with h|h
  ·exact h.2
  ·have:=h.1;omega
 have hp:AG w pb 195 (CT p 0 (DW cb 3)):=by
  have:=h5.proc
  unfold MR at this
  rwa [if_pos hst] at this
 refine (Ti (h4.cell rfl) (fun e w' h=>⟨_,h.1⟩) (Th kb pm pb cb p w (h5.ker.cell rfl) (h5.ker.cell rfl) h5.ker.lt (E8 h5.ker h5.proc (by decide)) (OL h5.procs h5.proc) h5.procs hp hc hs.2.2 hst h24)).mono ?_
 rintro e w' ⟨he,hg,hh,hq⟩
 refine ⟨he,⟨⟨tk,kb,tb,ab,am,cb,pm,pb,NB,MB,V,rfl,h2,h3,?_,h5.kept hg.size (fun k hk hn=>hg.block k (by omega) (by simpa using hn)) hh ?_⟩,Rh hp hg⟩,⟨hg.os,hg.tape,hg.output,hg.size,fun b hb hn=>hg.block b hb (by simp;omega)⟩⟩
 ·exact Ab h4 (hg.block tk (by omega) (by have:=E8 h4 hp (by decide);simpa using this))
 ·by_cases hz:∃s,Au p=p.ended s
  ·obtain ⟨s,hz⟩:=hz
   rw [hz]
   exact ⟨rfl,.inr ⟨rfl,rfl,rfl⟩⟩
  ·have hk:=Yu p (fun s e=>hz ⟨s,e⟩)
   rcases hq with hq|hq
   ·exact ⟨by rw [hk.2.2];exact h5.state.1,.inl ⟨hq.1,by rw [hk.1];exact hs.1,by rw [hk.2.1];exact hs.2.1,hq.2⟩⟩
   ·exact absurd hq hz
theorem Yv (w:World) (B C:Nat) (kp:Addr) (P:PK) (p:AP) (h:KR2 w B C kp P p) (hc:Can p) (hst:p.st=2) (hC:C<=w.heap.size):Calls Tryz.prog 51 #[.pointer (some kp),.int .i64 1] w fun e w'=>∃ev,e= .returned ev/\(KR2 w' B C kp P p/\Gu w w')/\Cl w w' B C/\Calls Tryz.prog 8 #[ev] w' fun e W2=>e= .returned (.int .i64 24)/\Below w'.heap.size w' W2:=by
 obtain ⟨tk,kb,tb,ab,am,cb,pm,pb,NB,MB,V,rfl,h2,h3,h4,h5⟩:=h
 have hps:p.PS=[]:=by
  rcases h5.state.2 with h|h
  ·have:=h.1;omega
  ·exact h.2.2
 have hSl:(Af p.PS).length=65792:=by rw [hps];exact BD (fun q hq=>by simp at hq)
 have h2s:w.cell? (pK pb 65811)=some (.int .i64 2):=by
  have:=h5.proc.cell (FN hc.api.regs hSl 2 _ rfl)
  rwa [hst] at this
 refine (Ti (h4.cell rfl) (fun e w' h=>by obtain ⟨q,h,_⟩:=h;exact ⟨_,h⟩) (RV kb pm pb w (h5.ker.cell rfl) h5.procs h2s h5.err)).mono ?_
 rintro e w' ⟨q,he,hq,hb⟩
 have h5':KR2 w' B C (pK tk 0) P p:=OM w w' B C _ P p ⟨tk,kb,tb,ab,am,cb,pm,pb,NB,MB,V,rfl,h2,h3,h4,h5⟩ hb.size (fun b hbC=>hb.block b (by omega))
 refine ⟨_,he,⟨h5',Gu.below hb⟩,⟨hb.os,hb.tape,hb.output,hb.size,fun b hb' _=>hb.block b hb'⟩,Ya 24 q w' hq ?_⟩
 obtain ⟨_,_,_,_,_,_,_,_,_,_,_,_,_,_,_,h6⟩:=h5'
 exact h6.err
theorem Yw (w:World) (B C:Nat) (kp:Addr) (P:PK) (p:AP) (h:KR2 w B C kp P p):∃FL,Calls Tryz.prog 59 #[.pointer (some kp)] w (CS w FL)/\Pp P.xs P.cs FL/\∀f∈FL,f.bytes.length<=1000000:=by
 obtain ⟨tk,kb,tb,ab,am,cb,pm,pb,NB,MB,V,rfl,h2,h3,h4,h5⟩:=h
 have hne:P.xs≠[]:=by obtain ⟨x,hx,_⟩:=h5.inv.root;intro e;rw [e] at hx;cases hx
 obtain ⟨x0,h0,h01,_⟩:=h5.tree.tree.root hne
 have hcl:∀c∈P.cs,c.length<=1000000:=fun c hc=>by have:=Ys hc;have:=h5.size.2.1;omega
 refine ⟨FL0 P,Yr tk kb tb (FL0 P) w (h4.cell rfl) (h5.ker.cell rfl) (PE P h5.inv B tb ab am NB MB V (by have:=h5.size.1;omega) hcl w h5.tree),Yp h5.inv h0 h01,fun f hf=> ?_⟩
 obtain ⟨j,_,rfl⟩:=yw.1 hf
 unfold Bm
 split
 ·show (P.cs.getD j []).length<=1000000
  rw [zl]
  cases hc:P.cs[j]? with
  |none=>simp
  |some c=>exact hcl c (zv hc)
 ·simp
theorem Vx (cb:Nat):GM cb IS:=⟨rfl,fun x hx=> .inr (List.eq_of_mem_replicate hx)⟩
theorem Yx:As []:=⟨List.Pairwise.nil,fun q hq=>by simp at hq⟩
theorem Rg.pgs {p:AP} (h:Rg p):As p.PS:=by
 rcases h.2 with h|h
 ·exact h.2.2.2
 ·rw [h.2.2];exact Yx
theorem Yy (w:World) (B C:Nat) (kp:Addr) (P:PK) (p:AP) (h:KR2 w B C kp P p) (hc:Can p):Calls Tryz.prog 57 #[.pointer (some kp)] w (F8 w [] [p]):=by
 obtain ⟨tk,kb,tb,ab,am,cb,pm,pb,NB,MB,V,rfl,h2,h3,h4,h5⟩:=h
 have hp:=h5.proc
 unfold MR at hp
 rcases h5.state.2 with h|h
 ·rw [if_pos h.1] at hp
  exact bX (h4.cell rfl) (h5.ker.cell rfl) h5.ker.lt h5.procs hp hc.api.regs h.2.2.2 (by omega) h.2.1 h5.state.1 h.2.2.1
 ·rw [if_neg (by omega)] at hp
  exact P3 (h4.cell rfl) (fun e w' h=>by obtain ⟨_,_,_,_,h,_⟩:=h;exact ⟨_,h⟩) ((OA kb pm pb p.pc p.R p.PS p.pid p.par p.st p.su 0 IS 0 [] w (h5.ker.cell rfl) h5.ker.lt h5.procs hp hc.api.regs h5.state.pgs (by omega) (fun w' h=>Tr pb w' h)).mono fun e w' hh=>Vf h.2.1 h5.state.1 h.2.2 hh)
theorem bt (w:World) (B C:Nat) (kp:Addr) (P:PK) (p:AP) (h:KR2 w B C kp P p) (hc:Can p):Calls Tryz.prog 61 #[.pointer (some kp)] w fun e w2=>e= .returned (.agg (BV [p.PS.length].length [p.PS.length].sum 0 P.xs.length (AU P.cs)).toArray)/\Below w.heap.size w w2:=by
 obtain ⟨tk,kb,tb,ab,am,cb,pm,pb,NB,MB,V,rfl,h2,h3,h4,h5⟩:=h
 have hok:=h5.state.pgs
 have hSl:(Af p.PS).length=65792:=BD (fun q hq=>(hok.each q hq).2.2.2.2)
 have hsp:w.rangeAt pb 17 (Af p.PS):=fun j v hv=>h5.proc.cell (LG hc.api.regs hSl j v hv)
 have hx:GM cb (MR p cb):=by
  unfold MR
  split
  ·exact TI cb
  ·exact Vx cb
 refine (bg tk kb pm pb cb tb ab P.lp P.lf P.lo P.li P.lb P.xs.length (AU P.cs) p.PS (MR p cb) w (h4.cell rfl) h4.lt h5.ker h5.procs h5.proc.lt (fun j hj=>(IC hok hsp hj).1) hok hx (fun j v hv=>h5.proc.cell ?_) h5.tree.tree.tree).mono ?_
 ·rw [show 65814+j=65809+(5+j) by omega]
  refine FN hc.api.regs hSl _ _ ?_
  rw [zo (by simp)]
  simpa using hv
 ·rintro e w' ⟨rfl,hb⟩
  exact ⟨by simp,hb⟩
theorem Yz:EK KR2:=⟨OM,Yy,Yw,bt,bq,Yv⟩
theorem Y0 {w:World} {B tb ab am:Nat} {P:PK} {NB MB:List Nat} {V:List Value} (h:BY w B tb ab am P NB MB V) (hi:Bo P):OJ w.heap.size tb ab am NB MB V:=by
 refine ⟨h.tree.tree.lt,h.tree.above.lt,h.tree.amap.lt,fun b hb=> ?_,fun m hm=>(h.tree.low.2.2.2.2 m hm).2,fun i v R hv hR=> ?_⟩
 ·obtain ⟨i,hi⟩:=yo.1 hb
  have hil:=(zy.1 hi).1
  have hl:=h.tree.len
  obtain ⟨qn,v,mv,h1,_⟩:=h.tree.node i _ b _ (zz (by omega)) hi (zz (by omega))
  exact h1.lt
 ·have hil:=(zy.1 hv).1
  rcases h.cont i v _ hv (zz (by rw [hi.len,<-h.tree.vlen];exact hil)) with ⟨q,_⟩|⟨R',cp,T,q1,q2,_⟩
  ·rw [q] at hR;cases hR
  ·rw [q1] at hR
   cases hR
   exact q2.lt
theorem fS (w0 w:World) (B:Nat) (kp:Addr) (P:PK) (hb:Below w0.heap.size w0 w) (hB:w0.heap.size<=B) (hg:w0.cell? (pK 0 0)=some (.iface 206 (.agg #[pq 6 41]))) (hge:0<w0.heap.size) (h:KR w B kp P) (hex:P.ExecOk [0] 0 At [BI]):KR2 w B w.heap.size kp P (Cj P):=by
 obtain ⟨tk,kb,tb,ab,am,cb,pm,pb,NB,MB,V,rfl,h2,h3,h4⟩:=h
 refine ⟨tk,kb,tb,ab,am,cb,pm,pb,NB,MB,V,rfl,h2,h3.lt,h3,h4.tree,Y0 h4.tree h4.inv,h4.ker,h4.procs,h4.con,h4.proc,h4.low,⟨h4.ker.lt,h4.con.lt,yp h4.procs,h4.proc.lt⟩,h4.inv,h4.size,⟨rfl,.inl ⟨rfl,rfl,by simp [Cj,Cp],bf hex⟩⟩,?_,by omega⟩
 rw [hb.cell (p:=(pK 0 0)) hge]
 exact hg
end
section
open Go Go.ChangeShapes Go.WideShapes Go.ChangeAt Go.RowKit
theorem PI {H:Type} {enc:TypeId×Value->H} {a:Assume} {C:Checked} {os:Os} {f:FuncId} {fn:Func} {s:ChangeSpec} {conds:List PathCond} {apart fresh handsOn again:Bool} {X:World->Array Value->Prop}
  (hX:∀(w w':World) (args:Array Value),w.heap=w'.heap->X w args->X w' args)
  (own:ownKnob C.prog.godebug=none) (started:os.Started) (noInit:C.prog.inits.idxOf? f=none) (hfn:C.prog.funcs[f]? =some fn)
  (witness:∃(w:World) (tape:Tape) (i:Input),w.os=os/\(w.forCall tape i).Shaped C.prog/\i.vars=[]/\Input.okWide C.prog (w.forCall tape i) .any w.heap.size f i/\
   ((s.pre enc C.prog fn conds apart (w.forCall tape i).memory i.args/\X (w.forCall tape i).memory i.args)/\sizedMet enc C.prog fn (OpenSpec.ofChange s) apart (w.forCall tape i).memory i.args)/\a.holds C.prog (lone (Frame.enter C.prog f i.args .normal) [] (w.forCall tape i)))
  (contract:∀(W:World) (base:Nat) (args:Array Value) (ds gs:List (DataW H)) (before:List MemPlace),
   (∀(j:Nat) t v,fn.params[j]? =some t->args[j]? =some v->Value.okWide C.prog W .any base t v)->
   DataW.Whole enc C.prog fn.params.toList s.vars apart W args.toList ds gs before->
   conds.all (PathCond.test C.prog ⟨fn.params.toList,ds,s.plain.varTypes C.prog,gs⟩)=true->
   (DataW.weightsEach C.prog (fn.params.toList++s.plain.varTypes C.prog) (ds++gs)).all (· <=reachBytes)=true->X W args->
   W.ShapedOpen C.prog->
   a.holds C.prog (lone (Frame.enter C.prog f args .normal) [] W)->
   Calls C.prog f args W fun e W'=>∃v,e= .returned v/\s.post enc C.prog fn apart fresh handsOn again W args v W'):
  ReturnsInHanded a C os f .any (fun w args=>(s.pre enc C.prog fn conds apart w args/\X w args)/\sizedMet enc C.prog fn (OpenSpec.ofChange s) apart w args) (s.post enc C.prog fn apart fresh handsOn again):=by
 refine returnsInHanded_of_calls own started noInit witness ?_
 intro w tape i _ hsh _ hok hpre hholds
 obtain ⟨_,_,_,fn',hfn',_,_,_,_,hval⟩:=hok
 have e:fn'=fn:=zr (hfn'.symm.trans hfn)
 subst e
 obtain ⟨⟨⟨ds,gs,before,hw,hc⟩,hx⟩,hz⟩:=hpre
 have hw':=DataW.Whole.of_heap (w':=w.forCall tape i) (by rfl) hw
 refine (contract (w.forCall tape i) w.heap.size i.args ds gs before hval hw' hc (hz.weights hw) (hX _ _ _ (by rfl) hx) hsh hholds).mono fun e W' ⟨v,he,hp⟩=> ?_
 subst he
 exact ChangeSpec.post_blind hp
theorem OS {W:World} (h:W.ShapedOpen Tryz.prog):∃m,W.cell? (pK 3 0)=some (.int .i64 m):=
 cell_of_shapedOpen_int (t:=3) (zero:=#[.int .i64 0]) (k:= .i64) h (of_decide_eq_true (by kernel_rfl)) (by kernel_rfl) rfl (by kernel_rfl) (by kernel_rfl) Tryz.underlying3
theorem PJ (v0:Value) (n:Int) (hn: -9223372036854775808<=n/\n<=9223372036854775807) (W:World) (lp lf lo li lb:Int) (fa:Option Addr) (fb foff fcap:Nat) (FZ:List AV) (LS:List BN) (h:MF W v0.cells.toList lp lf lo li lb fa fb foff fcap FZ LS) (hv:∃cs,v0= .agg cs) (hL:laidMetH Tryz.prog Cu W) (hS:W.ShapedOpen Tryz.prog):
  Calls Tryz.prog 3 #[v0,.int .i64 n] W fun e w'=>e= .returned (.bool true)/\Below W.heap.size W w':=by
 obtain ⟨cs,rfl⟩:=hv
 have hcs:cs=#[.int .i64 lp,.int .i64 lf,.int .i64 lo,.int .i64 li,.int .i64 lb,.slice fa FZ.length fcap]:=by
  have e:cs.toList=[.int .i64 lp,.int .i64 lf,.int .i64 lo,.int .i64 li,.int .i64 lb,.slice fa FZ.length fcap]:=h.cells
  exact Array.toList_inj.1 e
 subst hcs
 have hg:=OR hL
 have hT:=PH hL
 obtain ⟨mm,hM⟩:=OS hS
 have hge:0<W.heap.size:=zu W _ hg
 have hgt:1<W.heap.size:=zu W _ (hT 0 _ rfl)
 have hgm:3<W.heap.size:=zu W _ hM
 have hboot:∀(lp lf lo li lb:Int) (FZ:List AV) (w':World) (va:Option Addr) (vb vcap:Nat) (LS':List BN),FZ.length<=100->(FZ.map (fun f=>f.bytes.length)).sum<=200000->(∀f∈FZ,f.path.size<=maxLen/\AY f.bytes)->Below W.heap.size W w'->(0<FZ.length->va=some (pK vb 0)/\vb<w'.heap.size)->Cz w' vb 0 FZ LS'->Calls Tryz.prog 6 #[.agg #[.int .i64 lp,.int .i64 lf,.int .i64 lo,.int .i64 li,.int .i64 lb],.slice va FZ.length vcap] w' (GL lp lf lo li lb FZ KR w'):=by
  intro lp lf lo li lb FZ w' va vb vcap LS' hn hsum hps hb hva hf
  have hs:=hb.size
  exact bm lp lf lo li lb mm va vb vcap FZ LS' w' hn hsum hps hva hf (fun j v hv=>by rw [hb.cell (p:=(pK 1 (0+j))) hgt];exact hT j v hv) (by omega) (by rw [hb.cell (p:=(pK 3 0)) hgm];exact hM) (by omega)
 refine UF lp lf lo li lb n fa fb foff fcap FZ LS W hn h.at_ h.files h.each h.len h.byte hg hge KR Yl KR2 Yz (fun w B kp P hb hB hk hex=>fS W w B kp P hb hB hg hge hk hex) (fun w' hb=>Y9 w' KR (fun w'' va vb vcap LS' h2 h3 h4=> ?_)) (fun hn1 hs1 w' va vb vcap LS' h2 h3 h4=> ?_)
 ·refine hboot 2 10 2 3 1000 [Hf] w'' va vb vcap LS' (by decide) (by simp [Hf,I8]) (fun f hf=> ?_) (hb.trans (h2.mono hb.size)) h3 h4
  have e:f=Hf:=by simpa using hf
  subst e
  exact ⟨by decide,V7⟩
 ·exact hboot lp lf lo li lb FZ w' va vb vcap LS' hn1 hs1 (fun f hf=>⟨by have:=(h.each f hf).1;unfold maxLen;omega,h.byte f hf⟩) h2 h3 h4
theorem OT (os:Os) (started:os.Started) (H:Type) (enc:TypeId×Value->H):
  ReturnsInHanded {} Tryz.checked os 3 .any (fun w args=>(cfS.pre enc Tryz.prog Tryz.f3 [] false w args/\laidMetH Tryz.prog Cu w)/\sizedMet enc Tryz.prog Tryz.f3 (OpenSpec.ofChange cfS) false w args)
   (cfS.post enc Tryz.prog Tryz.f3 false true false false):=by
 refine PI (C:=Tryz.checked) (X:=fun w _=>laidMetH Tryz.prog Cu w) (fun _ _ _ hh h=>h.of_heap hh) own started (by kernel_rfl) Tryz.func3
  (ChangeSpec.witness_shaped (enc:=enc) (C:=Tryz.checked) (os:=os) (X:=fun w _=>laidMetH Tryz.prog Cu w) false ((World.doorLaid Tryz.prog 400 os).layVars Tryz.prog CU) #[.agg #[.int .i64 0,.int .i64 0,.int .i64 0,.int .i64 0,.int .i64 0,.slice none 0 0],.int .i64 0] 8 (World.layVars_os _ _ _) (World.shaped_of_ZipB (by kernel_rfl) (by kernel_rfl)) (by kernel_rfl) (by kernel_rfl) (by kernel_rfl) (Rm os _)) ?_
 intro W base args ds gs before hval0 hW _ hwt hL hS _
 have hval:∀(j:Nat) t v,Tryz.f3.params[j]? =some t->args[j]? =some v->Value.okWide Tryz.prog W .any base t v:=hval0
 have hW':=hW
 obtain ⟨p,q,hA0,hV,rfl,hfz,hnd⟩:=hW
 have hA:DataW.TrodAll enc Tryz.prog W 0 (fun _=>true) true Tryz.f3.params.toList args.toList ds p:=hA0
 rw [Tryz.params3] at hA hval
 obtain ⟨v0,v1,d0,d1,p0,p1,rfl,rfl,rfl,h0,h1⟩:=trodAll_two hA
 obtain ⟨rfl,rfl⟩:=trodVars_none hV
 have k0:=h0
 have k1:=h1
 have lt0:∀x∈p0,x.block<W.heap.size:=by obtain ⟨m,hm⟩:=k0;exact DataW.trod_lt m _ _ _ hm
 have lt1:∀x∈p1,x.block<W.heap.size:=by obtain ⟨m,hm⟩:=k1;exact DataW.trod_lt m _ _ _ hm
 obtain ⟨cs,hv0,_⟩:=okWide_struct Tryz.underlying26 (hval 0 26 v0 rfl rfl)
 have hwt2:∀n∈d0.weights Tryz.prog 26,n<=reachBytes:=fun n hn=>by
  have:=zb.1 hwt n (DataW.weights_mem_each (j:=0) (t:=26) (d:=d0) (by rw [show Tryz.checked.prog=Tryz.prog from rfl];first|rfl|(rw [Tryz.params3];rfl)) rfl n hn)
  simpa using this
 have fin:∀(e:Ending) (W':World),e= .returned (.bool true)/\Below W.heap.size W W'->∃v,e= .returned v/\cfS.post enc Tryz.prog Tryz.f3 false true false false W #[v0,v1] v W':=by
  rintro e W' ⟨rfl,bel⟩
  exact ⟨_,rfl,_,_,_,[],_,[],hW',trodAll_mk1 (shut_bool Tryz.underlying4 _),trodAll_mk2 (Below.trod Wl (by kernel_rfl) (of_decide_eq_true (by kernel_rfl)) k0 bel lt0) (Below.trod Wl (by kernel_rfl) (of_decide_eq_true (by kernel_rfl)) k1 bel lt1),rfl,bel.frame _,fun h=>by cases h⟩
 obtain ⟨fuel,hf⟩:=h0
 obtain ⟨lp,lf,lo,li,lb,fa,fb,foff,fcap,FZ,LS,hO⟩:=Rk hf hwt2
 obtain ⟨fuel1,hf1⟩:=h1
 obtain ⟨k,hcs1,_,hkw⟩:=DataW.trod_int Tryz.underlying3 hf1
 have hv1:v1= .int .i64 k:=by
  obtain ⟨n1,rfl⟩:=okWide_int Tryz.underlying3 (hval 1 3 v1 rfl rfl)
  simpa [Value.cells] using hcs1
 subst hv1
 exact (PJ v0 k (bounds_i64 hkw) W lp lf lo li lb fa fb foff fcap FZ LS hO ⟨cs,hv0⟩ hL hS).mono fin
theorem PN:Rows.CodingsSaid:=
 OpenClaim.holds_of_wide 3 Tryz.f3 rfl rfl rfl rfl rfl rfl rfl ⟨rfl,rfl,rfl,rfl,rfl⟩ rfl rfl rfl rfl rfl UI Tryz.func3 ZF du dw (fun os started H enc _=>OT os started H enc)
theorem gP (f:FuncId) (fn:Func) (hf:Tryz.prog.funcNamed "tinyos/tinyoslaw.Codings" =some f) (hfn:Tryz.prog.funcs[f]? =some fn):true=Tryz.prog.looks []/\∀(j:Nat) t,fn.params[j]? =some t->Tryz.prog.wantsStandIn t=false:=by
 obtain rfl:f=3:=zr (UI.symm.trans hf)|>.symm
 obtain rfl:fn=Tryz.f3:=(zr (Tryz.func3.symm.trans hfn)).symm
 refine ⟨cE,fun j t ht=> ?_⟩
 rw [Tryz.params3] at ht
 match j,ht with
 |0,ht=>
   obtain rfl:t=26:=by simpa using ht.symm
   exact gN
 |1,ht=>
   obtain rfl:t=3:=by simpa using ht.symm
   exact gO
 |(k+2),ht=>simp at ht
theorem codings_card_holds:Rows.CodingsCardSaid:=
 Claim7.holds_tied_plain_at .later [] [.data,.handle,.data,.data,.pinned] true (true, "300225b735b7e41a38b7a7bb57e4bc55028b125c809bf574d9ae59fe43e049cc") true
  PN (fun _ h=>by cases h) dx (fun _ h=>by cases h) UH rfl ⟨rfl,rfl⟩ dy rfl gP dz
#print axioms codings_card_holds
end
end Go.Proofs.YtdchgbmliojoiaaGreatDoor
