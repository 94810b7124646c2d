import Derived.Test.YtdchgbmliojoiaaGreatDoorG26
import Derived.Test.YtdchgbmliojoiaaGreatDoorG20
import Derived.Maps.RangeWalk
set_option maxRecDepth 100000
set_option maxHeartbeats 8000000
set_option linter.unusedVariables false
set_option linter.unusedSimpArgs false
namespace Go.Proofs.YtdchgbmliojoiaaGreatDoor
section
open Go Go.RowKit Go.Maps
def Iu (pb:Nat):DataW Unit:= .map [(.int .i64 1,.lit (.int .i64 pb))]
def A6 (w:World) (pm pb:Nat):Prop:=w.ownsMap Tryz.prog 3 CQ pm 1 (Iu pb)
theorem G7:Keyed Tryz.prog 3:=int_keyed Tryz.underlying3
theorem A6.kept {w w':World} {pm pb:Nat} (h:A6 w pm pb) {row:Option Nat} (hg:w.grownBy w' row) (hne:some pm≠row):A6 w' pm pb:=World.ownsMap.kept h hg hne
theorem Po {pb:Nat} {kl:Lit} (h:Maps.has (Iu pb) kl=true):kl= .int .i64 1:=by
 unfold Iu at h
 rw [Maps.has_eq] at h
 simp at h
 exact (WideAt.sameKey_eq h).symm
theorem Sv (pb:Nat) (zd:DataW Unit):(Iu pb).atKey (.int .i64 1) zd= .lit (.int .i64 pb):=rfl
theorem Zv (key:Value) (kl:Lit) (h:keyOf Tryz.prog 3 key=some kl):∃x,key=Value.int .i64 x:=by
 obtain ⟨x,rfl,_⟩:=Maps.keyOf_int_inv Tryz.underlying3 h
 exact ⟨x,rfl⟩
theorem Ux (v:Value) (y:DataW Unit×List MemPlace) (h:CQ v=some y):∃c,v=CG c:=by
 unfold CQ at h
 split at h
 ·exact ⟨none,rfl⟩
 ·rename_i b
  exact ⟨some b,rfl⟩
 ·cases h
theorem WS {x:Int} {kl:Lit} (h:keyOf Tryz.prog 3 (.int .i64 x)=some kl) (hk:kl= .int .i64 1):x=1:=by
 obtain ⟨y,e,h2,_⟩:=Maps.keyOf_int_inv Tryz.underlying3 h
 have hx:x=y:=by simpa using e
 rw [hk] at h2
 have hy:1=y:=by simpa using h2
 omega
theorem NY {pb:Nat} {c:Option Nat} {y:DataW Unit×List MemPlace} (h:CQ (CG c)=some y) (hy:y.1= .lit (.int .i64 pb)):c=some pb:=by
 cases c with
 |none=>
  have:y=(.nil,[]):=(zr h).symm
  rw [this] at hy;cases hy
 |some b=>
  have:y=(.lit (.int .i64 b),[]):=(zr h).symm
  rw [this] at hy
  injection hy with hy
  injection hy with _ hy
  have:b=pb:=by omega
  rw [this]
def EQ (lp lf lo li lb:Int) (tb cb pm:Nat):List Value:=[.int .i64 lp,.int .i64 lf,.int .i64 lo,.int .i64 li,.int .i64 lb,pq tb 0,pq cb 0,.int .i64 0,.slice none 0 0,.map (some pm)]
def Gc (w:World) (pb:Nat) (PS:List Pg):Prop:=∀j:Nat,j<256->w.cell? (pK pb (17+j*257))=some (.int .u8 (Cx PS j))
theorem Gc.below {w w':World} {pb:Nat} {PS:List Pg} (h:Gc w pb PS) (hb:Below w.heap.size w w') (hl:pb<w.heap.size):Gc w' pb PS:=fun j hj=>by rw [hb.cell (p:=(pK pb (17+j*257))) hl];exact h j hj
theorem NZ (kb pm pb:Nat) (lp lf lo li lb:Int) (tb cb:Nat) (PS:List Pg) (w:World) (hk:AG w kb 112 (EQ lp lf lo li lb tb cb pm)) (hm:A6 w pm pb) (hpl:pb<w.heap.size) (hp:Gc w pb PS) (hok:As PS) (hn:PS.length<=256):
  Calls Tryz.prog 132 #[pq kb 0] w fun e w'=>e= .returned (.int .i64 (PS.length:Nat))/\Below w.heap.size w w':=by
 have c9:w.cell? (pK kb 9)=some (.map (some pm)):=hk.cell rfl
 have HM:=AC hm
 have HP:=AC hp
 have HOK:=AC hok
 have HPL:=AC (And.intro hpl (show pm<w.heap.size from yp hm))
 have HN:=AC hn
 clear hk hm hp hok hpl hn
 go_enter Tryz.func132,Tryz.ntmps132
 go_wp2_with (first|(at_range;refine wpList_range_own _ rfl _ 106 rfl 3 104 G7 Tryz.underlying106 CQ pm 1 (Iu pb) rfl (AB HM) ?_;intro w0 hrg0 hg0 hs0)|go_in)
 have HR0:=AC hrg0
 have HB0:=AC (show Below w.heap.size w w0 from ⟨hg0.os,hg0.tape,hg0.output,hg0.size,fun k hk=>hg0.block k hk (by simp)⟩)
 clear hrg0 hg0 hs0 c9
 go_frame
 go_loopw [3] (fun c wr=>∃(left:Lit->Bool) (cnt:Nat),Hid (wr.ranges Tryz.prog 3 CQ pm w.heap.size 1 (Iu pb) left cnt)/\Hid (∀kl,left kl=true->kl= .int .i64 1)/\Hid (cnt=1/\c= .int .i64 0\/cnt=0/\c= .int .i64 (PS.length:Nat))/\Hid (Below w.heap.size w wr)) (fun _ wr=>wr.rangeLeft pm w.heap.size)
 case atStart=>exact ⟨_,_,HR0,AC (fun kl h=>Po h),AC (.inl ⟨rfl,rfl⟩),HB0⟩
 case round=>
  obtain ⟨left,cnt,HRG,HLF,HCN,HB⟩:=hrel
  go_wp2_with (first
   |(at_next;refine wpList_next_ranges _ rfl _ rfl 3 G7 CQ (Value.int .i64) CG Zv Ux pm w.heap.size 1 (Iu pb) left cnt rfl (AB HRG) ?_ ?_)
   |go_in)
  ·intro hc0 hl0
   obtain rfl:u3= .int .i64 (PS.length:Nat):=by
    rcases AB HCN with ⟨q,_⟩|⟨_,q⟩
    ·omega
    ·exact q
   go_wp2
   go_ret
   exact ⟨rfl,AB HB⟩
  ·intro x c kl y1 y2 w1 cnt1 hkey hlk hv hat hrg1 hlt hg1 hs1 hen
   have hkl:=AB HLF kl hlk
   subst hkl
   obtain rfl:=WS hkey rfl
   obtain rfl:=NY hv (show y1=_ by rw [<-hat .nil];exact Sv pb .nil)
   obtain ⟨rfl,rfl⟩:cnt=1/\u3= .int .i64 0:=by
    rcases AB HCN with q|⟨q,_⟩
    ·exact q
    ·omega
   have hb1:Below w.heap.size w w1:=(AB HB).trans ⟨hg1.os,hg1.tape,hg1.output,hg1.size,fun k hk=>hg1.block k (by have:=(AB HB).size;omega) (by simp;omega)⟩
   have HCT:=AC (Kw pb 17 PS w1 (AB HOK) ((AB HP).below hb1 (AB HPL).1))
   have HRG1:=AC hrg1
   have HB1:=AC hb1
   have hn:=AB HN
   have hn0:(PS.length:Int)<=256:=by omega
   have hc1:cnt1=0:=by omega
   clear hkey hlk hv hat hrg1 hlt hg1 hs1 hb1 hn
   unfold CG at hen ⊢
   go_wp2_with fail
   refine (AB HCT).mono ?_
   rintro e w2 ⟨rfl,rfl⟩
   clear hen HCT
   go_wp2
   subst hc1
   exact ⟨⟨_,_,HRG1,AC (fun kl h=>by
    have:=(Bool.and_eq_true _ _▸h:left kl=true/\(!kl.sameKey (.int .i64 1))=true)
    exact AB HLF kl this.1),AC (.inr ⟨rfl,by simp⟩),HB1⟩,by rw [(AB HRG1).left_eq,(AB HRG).left_eq];omega⟩
end
section
open Go.RowKit
theorem TB {p:PK} {PL:List Nat} {i:Nat} {s:ByteArray} {ss:List ByteArray} {c:Int} (h:p.ExecErr PL i s ss c):c≠0:=by
 rcases h with ⟨h,rfl⟩|⟨_,(⟨_,rfl⟩|⟨_,(⟨_,rfl⟩|⟨_,(h|⟨_,(⟨_,rfl⟩|⟨_,_,rfl⟩)⟩)⟩)⟩)⟩
 ·exact h
 ·decide
 ·decide
 ·exact Z5 h
 ·decide
 ·decide
theorem Ou {p:PK} {PL:List Nat} {i:Nat} {s:ByteArray} {ss:List ByteArray} {c d:Int} (h:p.ExecErr PL i s ss c) (k:p.ExecErr PL i s ss d):c=d:=by
 rcases h with ⟨a1,rfl⟩|⟨a1,(⟨a2,rfl⟩|⟨a2,(⟨a3,rfl⟩|⟨a3,(a4|⟨a4,(⟨a5,rfl⟩|⟨a5,a6,rfl⟩)⟩)⟩)⟩)⟩<;>
 rcases k with ⟨b1,rfl⟩|⟨b1,(⟨b2,rfl⟩|⟨b2,(⟨b3,rfl⟩|⟨b3,(b4|⟨b4,(⟨b5,rfl⟩|⟨b5,b6,rfl⟩)⟩)⟩)⟩)⟩<;>
 first|rfl|exact absurd b1 a1|exact absurd a1 b1|exact absurd b2 a2|exact absurd a2 b2|exact absurd (a3.symm.trans b3) (by decide)|exact Bad.uniq a4 b4|exact (Bad.notGood a4 b4).elim|exact (Bad.notGood b4 a4).elim|exact absurd (a5.symm.trans b5) (by decide)
theorem Qu {p:PK} {PL:List Nat} {i:Nat} {s:ByteArray} {ss:List ByteArray} {c:Int} (h:p.ExecErr PL i s ss c) (k:p.ExecOk PL i s ss):False:=by
 obtain ⟨b1,b2,b3,b4,b5,b6⟩:=k
 rcases h with ⟨a1,rfl⟩|⟨a1,(⟨a2,rfl⟩|⟨a2,(⟨a3,rfl⟩|⟨a3,(a4|⟨a4,(⟨a5,rfl⟩|⟨a5,a6,rfl⟩)⟩)⟩)⟩)⟩
 ·exact a1 b1
 ·exact b2 a2
 ·rw [a3] at b3;cases b3
 ·exact Bad.notGood a4 b4
 ·rw [a5] at b5;cases b5
 ·omega
theorem U6 {lp lf lo li lb:Int} {FZ:List AV} {c:Int} (h:FX lp lf lo li lb FZ c):c≠0:=by
 rcases h with ⟨_,rfl⟩|⟨_,(⟨_,rfl⟩|⟨_,(⟨h,rfl⟩|⟨_,h⟩)⟩)⟩
 ·decide
 ·decide
 ·exact h
 ·exact TB h
theorem Qv {lp lf lo li lb:Int} {FZ:List AV} {c d:Int} (h:FX lp lf lo li lb FZ c) (k:FX lp lf lo li lb FZ d):c=d:=by
 rcases h with ⟨a1,rfl⟩|⟨a1,(⟨a2,rfl⟩|⟨a2,(⟨a3,rfl⟩|⟨a3,a4⟩)⟩)⟩<;>rcases k with ⟨b1,rfl⟩|⟨b1,(⟨b2,rfl⟩|⟨b2,(⟨b3,rfl⟩|⟨b3,b4⟩)⟩)⟩<;>
 first|rfl|exact absurd b1 a1|exact absurd a1 b1|exact absurd b2 a2|exact absurd a2 b2|exact absurd b3 a3|exact absurd a3 b3|exact Ou a4 b4
theorem Iy {lp lf lo li lb:Int} {FZ:List AV} {c:Int} (h:FX lp lf lo li lb FZ c) (k:E5 lp lf lo li lb FZ):False:=by
 obtain ⟨b1,b2,b3,b4⟩:=k
 rcases h with ⟨a1,rfl⟩|⟨a1,(⟨a2,rfl⟩|⟨a2,(⟨a3,rfl⟩|⟨a3,a4⟩)⟩)⟩
 ·exact a1 b1
 ·exact b2 a2
 ·exact a3 b3
 ·exact Qu a4 b4
theorem EY.below {p:PK} {w w' w'':World} {k:RK} {cs:List (List Int)} {g cap gp pc gn cn:Nat} (h:EY p w w' k cs g cap gp pc gn cn) (hb:Below w'.heap.size w' w''):EY p w w'' k cs g cap gp pc gn cn:=by
 have hg:w'.grownBy w'' none:=⟨hb.os,hb.tape,hb.output,hb.size,fun k hk _=>hb.block k hk⟩
 exact ⟨h.toP,h.rep.below hb,h.cont.frame (Al.ofBelow hb) h.rep.apart.1 h.rep.apart.2,h.inv,h.bytes,h.used,h.inos,h.last,h.pv,h.nils,h.ok,h.pages.kept hg (.inr (by simp [Value.ownBlock])),h.procs.kept hg (.inr (by simp [Value.ownBlock])),h.apart⟩
def GL (lp lf lo li lb:Int) (FZ:List AV) (KR:World->Nat->Addr->PK->Prop) (w:World) (e:Ending) (w':World):Prop:=
 Below w.heap.size w w'/\((∃c,FX lp lf lo li lb FZ c/\e= .returned (.tuple #[.pointer none,.iface 47 (.int .i64 c)]))\/(E5 lp lf lo li lb FZ/\∃kp,e= .returned (.tuple #[.pointer (some kp),.nilIface])/\KR w' w.heap.size kp ((B6 lp lf lo li lb).puts FZ).2))
def U7 (KR:World->Nat->Addr->PK->Prop):Prop:=∀(w w':World) (B:Nat) (kp:Addr) (p:PK),KR w B kp p->w.heap.size<=w'.heap.size->(∀k,B<=k->k<w.heap.size->w'.heap[k]? =w.heap[k]?)->KR w' B kp p
def Iz (kv rv:Value):List Value:=[kv,rv,.slice none 0 0,.slice none 0 0,.bool false]
def TC (lp lf lo li lb:Int) (FZ:List AV) (KR:World->Nat->Addr->PK->Prop) (w:World) (e:Ending) (w':World):Prop:=
 Below w.heap.size w w'/\((∃c wp,c≠0/\e= .returned (.tuple #[wp,.int .i64 c,.bool true]))\/(E5 lp lf lo li lb FZ/\∃wb B kp W k cs g cap gp pc gn cn,e= .returned (.tuple #[pq wb 0,.int .i64 0,.bool true])/\w.heap.size<=wb/\AG w' wb 55 (Iz (.pointer (some kp)) (pq (W.heap.size+1) 0))/\KR w' B kp ((B6 lp lf lo li lb).puts FZ).2/\w.heap.size<=W.heap.size/\EY ((B6 lp lf lo li lb).puts FZ).2 W w' k cs g cap gp pc gn cn/\KR W B kp ((B6 lp lf lo li lb).puts FZ).2/\Below W.heap.size W w'/\(W.heap.size+1<wb/\gp<wb/\gn<wb)/\w.heap.size<=B/\B<=W.heap.size))
theorem Z7:(Tryz.prog.info? 9).map (fun i=>(i.zero,i.size,i.bytes))=some (some (.string ByteArray.empty),1,16):=by kernel_rfl
theorem Z8:(Tryz.prog.info? 4).map (fun i=>(i.zero,i.size,i.bytes))=some (some (.bool false),1,1):=by kernel_rfl
theorem cu:(Tryz.prog.info? 32).map (fun i=>(i.zero,i.size,i.bytes))=some (some (.slice none 0 0),1,24):=by kernel_rfl
theorem TD:(Tryz.prog.info? 46).map (fun i=>(i.zero,i.size,i.bytes))=some (some (.agg #[.string ByteArray.empty,.bool false,.slice none 0 0]),3,48):=by kernel_rfl
theorem TE (n:Int) (w:World):Calls Tryz.prog 19 #[.int .i64 n] w fun e w'=>e= .returned (.int .i64 n)/\w'=w:=by
 go_enter Tryz.func19,Tryz.ntmps19
 go_wp2
 go_ret
 exact ⟨rfl,rfl⟩
theorem U8:∀args w,(callFunc 17 args).run Tryz.prog w= .ok (.enter 17 args) w:=enters_of Tryz.func17 (by kernel_rfl) rfl
theorem IB {w:World} {b r:Nat} {e:TypeId} {vs:List Value} (h:MW w (some b) e) (hr:AG w r 5 vs) (hne:5≠e):b≠r:=fun he=>B8 hr h hne (by rw [he])
theorem WV (w:World) (t:TypeId) (v:Value):∀j u,[v][j]? =some u->(w.alloc (Obj.cells #[v] t)).cell? (((pK w.heap.size 0):Addr).add j)=some u:=fun j u hj=>by
 rw [CN,zq]
 exact (AG.new w t [v]).cell hj
theorem WW (w:World) (t:TypeId) (a b c:Value):∀j u,[a,b,c][j]? =some u->(w.alloc (Obj.cells #[a,b,c] t)).cell? (((pK w.heap.size 0):Addr).add j)=some u:=fun j u hj=>by
 rw [CN,zq]
 exact (AG.new w t [a,b,c]).cell hj
theorem Z9 (lp lf lo li lb:Int) (fa:Option Addr) (fb foff fcap:Nat) (FZ:List AV) (LS:List BN) (w:World) (hfa:0<FZ.length->fa=some (pK fb foff)/\fb<w.heap.size) (hf:Cz w fb foff FZ LS) (hn:FZ.length<=100) (hsum:(FZ.map (fun f=>f.bytes.length)).sum<=200000) (hps:∀f∈FZ,f.path.size<=maxLen/\AY f.bytes)
  (hg:w.cell? (pK 0 0)=some (.iface 206 (.agg #[pq 6 41]))) (hge:0<w.heap.size) (KR:World->Nat->Addr->PK->Prop) (hst:U7 KR)
  (hprog:∀(w':World) (va:Option Addr) (vb vcap:Nat) (LS':List BN),Below w.heap.size w w'->(0<FZ.length->va=some (pK vb 0)/\vb<w'.heap.size)->Cz w' vb 0 FZ LS'->Calls Tryz.prog 6 #[.agg #[.int .i64 lp,.int .i64 lf,.int .i64 lo,.int .i64 li,.int .i64 lb],.slice va FZ.length vcap] w' (GL lp lf lo li lb FZ KR w')):
  Calls Tryz.prog 10 #[.agg #[.int .i64 lp,.int .i64 lf,.int .i64 lo,.int .i64 li,.int .i64 lb,.slice fa FZ.length fcap]] w (TC lp lf lo li lb FZ KR w):=by
 have HF:=AC hf
 have HFA:=AC hfa
 have HPS:=AC hps
 have HSUM:=AC hsum
 have HG:=AC hg
 have HPR:=AC hprog
 have HB0:=AC (show Below w.heap.size w (w.alloc (Obj.cells (Gd lp lf lo li lb (.slice fa FZ.length fcap)).toArray 26)) from (zw _ _).alloc (zx _) _)
 have HS0:=AC (show DA w (w.alloc (Obj.cells (Gd lp lf lo li lb (.slice fa FZ.length fcap)).toArray 26)) (Gd lp lf lo li lb (.slice fa FZ.length fcap)) FZ LS [] 0 0 0 0 (.slice none 0 0) (.slice none 0 0) (.slice none 0 0) (.slice none 0 0) from
  ⟨AG.new w 26 _,World.ownsRow_nil _ _ _ _,World.ownsRow_nil _ _ _ _,World.ownsRow_nil _ _ _ _,World.ownsRow_nil _ _ _ _,fun i r f h=>by simp at h,fun i j r q _ h=>by simp at h,AB HB0⟩)
 obtain ⟨i1,hi1,hz10,hz11,hz12⟩:=Eu Z7
 have HI1:=AC (And.intro hi1 (And.intro hz10 (And.intro hz11 hz12)))
 obtain ⟨i2,hi2,hz20,hz21,hz22⟩:=Eu Z8
 have HI2:=AC (And.intro hi2 (And.intro hz20 (And.intro hz21 hz22)))
 obtain ⟨i3,hi3,hz30,hz31,hz32⟩:=Eu cu
 have HI3:=AC (And.intro hi3 (And.intro hz30 (And.intro hz31 hz32)))
 obtain ⟨i4,hi4,hz40,hz41,hz42⟩:=Eu TD
 have HI4:=AC (And.intro hi4 (And.intro hz40 (And.intro hz41 hz42)))
 have HST:=AC hst
 clear hf hfa hps hsum hg hprog hst hi1 hz10 hz11 hz12 hi2 hz20 hz21 hz22 hi3 hz30 hz31 hz32 hi4 hz40 hz41 hz42
 go_enter Tryz.func10,Tryz.ntmps10
 go_wp2
 go_loopw [5,6,7,8,9] (fun v5 v6 v7 v8 i wr=>∃(j:Nat) (RS:List Nat),j<=FZ.length/\i= .int .i64 j/\RS.length=j/\Hid (DA w wr (Gd lp lf lo li lb (.slice fa FZ.length fcap)) FZ LS RS j j j j v5 v6 v7 v8)) (fun _ _ _ _ i _=>FZ.length-(intOf i).toNat)
 case atStart=>exact ⟨0,[],by omega,rfl,rfl,HS0⟩
 case round=>
  obtain ⟨j,RS,hj,rfl,hRS,HS⟩:=hrel
  have c5:wr.cell? (pK w.heap.size 5)=some (.slice fa FZ.length fcap):=(AB HS).s.cell rfl
  by_cases hlt:j<FZ.length
  ·obtain ⟨f,hf⟩:∃f,FZ[j]? =some f:=⟨_,zz hlt⟩
   obtain ⟨l,hl⟩:∃l,LS[j]? =some l:=⟨_,zz (by rw [(AB HF).len];exact hlt)⟩
   obtain ⟨rfl,hfb⟩:=AB HFA (by omega)
   obtain ⟨g0,g1,g2,g3,g4⟩:=(AB HF).at_ j f l hf hl
   have hbl:=(AB HS).bl
   have hsz:=hbl.size
   have hsl:=(AB HS).s.lt
   have d0:wr.cell? (pK fb (foff+j*3))=some (.string f.path):=by rw [hbl.cell (p:=(pK fb (foff+j*3))) hfb];exact g0
   have d1:wr.cell? (pK fb (foff+j*3+1))=some (.bool f.dir):=by rw [hbl.cell (p:=(pK fb (foff+j*3+1))) hfb];exact g1
   have d2:wr.cell? (pK fb (foff+j*3+2))=some (.slice l.a f.bytes.length l.c):=by rw [hbl.cell (p:=(pK fb (foff+j*3+2))) hfb];exact g2
   have hj0:(0:Int)<=(j:Int):=by omega
   have hj1:(j:Int)<(FZ.length:Int):=by omega
   have hbsz:f.bytes.length<=1000000:=by
    have h1:=Gs hf
    have h2:=F5 FZ (j+1)
    have h3:=AB HSUM
    omega
   have HRM:=AC (fun (w':World) (hb:Below w.heap.size w w')=>XS l.a l.q l.o l.c f.bytes w' (fun h=>(g3 h).1) (by
     by_cases h0:0<f.bytes.length
     ·exact fun k hk=>by rw [hb.cell (p:=(pK l.q (l.o+k))) (g3 h0).2];exact g4 k hk
     ·exact fun k hk=>absurd hk (by omega)) (fun h=>by have:=(g3 h).2;have:=hb.size;omega) hbsz)
   have HP5:=AC (Qn hf)
   have HP6:=AC (S8 hf)
   have HP7:=AC (Qp hf hl)
   have HFL:=AC (And.intro hf hl)
   obtain ⟨PA,hPA⟩:∃PA,PA=f.path:=⟨_,rfl⟩
   obtain ⟨DI,hDI⟩:∃DI,DI=f.dir:=⟨_,rfl⟩
   obtain ⟨BL,hBL⟩:∃BL,BL=f.bytes.length:=⟨_,rfl⟩
   rw [<-hPA] at d0 HP5
   rw [<-hDI] at d1 HP6
   rw [<-hBL] at d2 HP7 HRM hbsz
   have HEQ:=AC (And.intro hPA (And.intro hDI hBL))
   obtain ⟨W1,hW1⟩:∃W1,W1=wr.alloc (Obj.cells #[.string PA,.bool DI,.slice l.a BL l.c] 46):=⟨_,rfl⟩
   have hb1:Below wr.heap.size wr W1:=by rw [hW1];exact (zw _ _).alloc (zx _) _
   have hF1:AG W1 wr.heap.size 46 [.string PA,.bool DI,.slice l.a BL l.c]:=by rw [hW1];exact AG.new wr 46 _
   have HS1:=AC ((AB HS).move hb1)
   have HF1:=AC hF1
   have HW1:=AC hW1
   have hs1:=hb1.size
   clear hf hl g0 g1 g2 g3 g4 hbl hPA hDI hBL hW1 hF1 hb1
   go_upto_region 9 with fail
   rw [<-AB HW1]
   clear d0 d1 d2
   have x0:=(AB HF1).cell (j:=0) rfl
   have HA1:=AC ((AB HS1).p.alloc (Obj.cells #[.string PA] 9))
   go_upto_region 10 with (at_builtin;refine wpList_append_lies _ (by rfl) _ _ 31 (by rfl) (w.heap.size+1) 9 i1 _ 1 16 Tryz.underlying31 (AB HI1).1 (AB HI1).2.1 (AB HI1).2.2.1 (AB HI1).2.2.2 rfl (by decide) _ _ _ (by rfl) (AB HA1) (pK W1.heap.size 0) 1 1 [.string PA] (by rfl) (by rfl) (WV W1 _ _) (by intro u hu;simp only [List.mem_cons,List.not_mem_nil,or_false] at hu;subst hu;rfl) (by omega) (by unfold maxLen;omega) (by omega) (by simp;omega) (W1.heap.size+1) (by simp) ?_;intro n5 k5 w2 hown2 hgrow2 hat2 hlt2)
   have a2:Below W1.heap.size W1 (W1.alloc (Obj.cells #[.string PA] 9)):=(zw _ _).alloc (zx _) _
   have HS2:=AC (((AB HS1).move a2).app5 hgrow2 (by rw [AB HP5];exact hown2))
   have HF2:=AC (((AB HF1).alloc (Obj.cells #[.string PA] 9)).grown hgrow2 (B8 ((AB HF1).alloc (Obj.cells #[.string PA] 9)) (Bv (AB HA1)) (by decide)))
   have hs2:W1.heap.size+1<=w2.heap.size:=by have:=hgrow2.size;simpa using this
   clear x0 hown2 hgrow2 hat2 hlt2 HA1 HS1 HF1 a2
   have x1:=(AB HF2).cell (j:=1) rfl
   have HA2:=AC ((AB HS2).di.alloc (Obj.cells #[.bool DI] 4))
   go_upto_region 11 with (at_builtin;refine wpList_append_lies _ (by rfl) _ _ 66 (by rfl) (w.heap.size+1) 4 i2 _ 1 1 Tryz.underlying66 (AB HI2).1 (AB HI2).2.1 (AB HI2).2.2.1 (AB HI2).2.2.2 rfl (by decide) _ _ _ (by rfl) (AB HA2) (pK w2.heap.size 0) 1 1 [.bool DI] (by rfl) (by rfl) (WV w2 _ _) (by intro u hu;simp only [List.mem_cons,List.not_mem_nil,or_false] at hu;subst hu;rfl) (by omega) (by unfold maxLen;omega) (by omega) (by simp;omega) (w2.heap.size+1) (by simp) ?_;intro n6 k6 w3 hown3 hgrow3 hat3 hlt3)
   have a3:Below w2.heap.size w2 (w2.alloc (Obj.cells #[.bool DI] 4)):=(zw _ _).alloc (zx _) _
   have HS3:=AC (((AB HS2).move a3).app6 hgrow3 (by rw [AB HP6];exact hown3))
   have HF3:=AC (((AB HF2).alloc (Obj.cells #[.bool DI] 4)).grown hgrow3 (B8 ((AB HF2).alloc (Obj.cells #[.bool DI] 4)) (Bv (AB HA2)) (by decide)))
   have hs3:w2.heap.size+1<=w3.heap.size:=by have:=hgrow3.size;simpa using this
   clear x1 hown3 hgrow3 hat3 hlt3 HA2 HS2 HF2 a3
   have x2:=(AB HF3).cell (j:=2) rfl
   have HA3:=AC ((AB HS3).by_.alloc (Obj.cells #[.slice l.a BL l.c] 32))
   go_upto_region 12 with (at_builtin;refine wpList_append_lies _ (by rfl) _ _ 67 (by rfl) (w.heap.size+1) 32 i3 _ 1 24 Tryz.underlying67 (AB HI3).1 (AB HI3).2.1 (AB HI3).2.2.1 (AB HI3).2.2.2 rfl (by decide) _ _ _ (by rfl) (AB HA3) (pK w3.heap.size 0) 1 1 [.slice l.a BL l.c] (by rfl) (by rfl) (WV w3 _ _) (by intro u hu;simp only [List.mem_cons,List.not_mem_nil,or_false] at hu;subst hu;rfl) (by omega) (by unfold maxLen;omega) (by omega) (by simp;omega) (w3.heap.size+1) (by simp) ?_;intro n7 k7 w4 hown4 hgrow4 hat4 hlt4)
   have a4:Below w3.heap.size w3 (w3.alloc (Obj.cells #[.slice l.a BL l.c] 32)):=(zw _ _).alloc (zx _) _
   have HS4:=AC (((AB HS3).move a4).app7 hgrow4 (by rw [AB HP7];exact hown4))
   have HF4:=AC (((AB HF3).alloc (Obj.cells #[.slice l.a BL l.c] 32)).grown hgrow4 (B8 ((AB HF3).alloc (Obj.cells #[.slice l.a BL l.c] 32)) (Bv (AB HA3)) (by decide)))
   have hs4:w3.heap.size+1<=w4.heap.size:=by have:=hgrow4.size;simpa using this
   clear x2 hown4 hgrow4 hat4 hlt4 HA3 HS3 HF3 a4
   have x2:=(AB HF4).cell (j:=2) rfl
   have HRC:=AC (AB HRM w4 (AB HS4).bl)
   go_wp2_with fail
   refine (AB HRC).mono ?_
   rintro e w5 ⟨rfl,hh5,hb5⟩
   have HS5:=AC ((AB HS4).room hb5 (by rw [hRS]) (by rw [hRS];exact (AB HFL).1) hh5)
   have HF5:=AC ((AB HF4).below hb5 (AB HF4).lt)
   have hs5:=hb5.size
   have HP8:=AC (show Dn FZ (RS++[w4.heap.size]) (j+1)=Dn FZ (RS++[w4.heap.size]) j++[.string PA,.bool DI,.slice (some (pK w4.heap.size 0)) BL (BL+2)] from by
    rw [Qq (AB HFL).1 (show (RS++[w4.heap.size])[j]? =some w4.heap.size from by rw [<-hRS];simp)]
    obtain ⟨e1,e2,e3⟩:=AB HEQ
    rw [e1,e2,e3];rfl)
   clear x2 hh5 hb5 HRC HS4 HF4 HRM
   have x0:=(AB HF5).cell (j:=0) rfl
   have x1:=(AB HF5).cell (j:=1) rfl
   have HA5:=AC ((AB HS5).fi.alloc (Obj.cells #[.string PA,.bool DI,.slice (some (pK w4.heap.size 0)) BL (BL+2)] 46))
   go_wp2_with (at_builtin;refine wpList_append_lies _ (by rfl) _ _ 24 (by rfl) (w.heap.size+1) 46 i4 _ 3 48 Tryz.underlying24 (AB HI4).1 (AB HI4).2.1 (AB HI4).2.2.1 (AB HI4).2.2.2 rfl (by decide) _ _ _ (by rfl) (AB HA5) (pK w5.heap.size 0) 1 1 [.string PA,.bool DI,.slice (some (pK w4.heap.size 0)) BL (BL+2)] (by rfl) (by rfl) (WW w5 _ _ _ _) (by intro u hu;simp only [List.mem_cons,List.not_mem_nil,or_false] at hu;rcases hu with rfl|rfl|rfl<;>rfl) (by omega) (by unfold maxLen;omega) (by omega) (by simp;omega) (w5.heap.size+1) (by simp) ?_;intro n8 k8 w6 hown6 hgrow6 hat6 hlt6)
   have a6:Below w5.heap.size w5 (w5.alloc (Obj.cells #[.string PA,.bool DI,.slice (some (pK w4.heap.size 0)) BL (BL+2)] 46)):=(zw _ _).alloc (zx _) _
   have HS6:=AC (((AB HS5).move a6).app8 hgrow6 (by rw [AB HP8];exact hown6))
   clear x0 x1 hown6 hgrow6 hat6 hlt6 HA5 HS5 HF5 a6
   go_roundw
   case rel=>exact ⟨j+1,RS++[w4.heap.size],by omega,by go_num,by simp [hRS],HS6⟩
   case measure=>simp [intOf];omega
  ·have hje:j=FZ.length:=by omega
   subst hje
   have t8:=Bv (AB HS).fi
   have t5:=Bv (AB HS).p
   have t6:=Bv (AB HS).di
   have t7:=Bv (AB HS).by_
   obtain ⟨a5,b5,k5,rfl,h5⟩:=JK (AB HS).p
   obtain ⟨a6,b6,k6,rfl,h6⟩:=JK (AB HS).di
   obtain ⟨a7,b7,k7,rfl,h7⟩:=JK (AB HS).by_
   obtain ⟨a8,b8,k8,rfl,h8⟩:=JK (AB HS).fi
   have hbl:=(AB HS).bl
   have hsl:=(AB HS).s.lt
   have hRF:∀(i r:Nat),RS[i]? =some r->∃f,FZ[i]? =some f:=fun i r hr=>⟨_,zz (by have:=(zy.1 hr).1;omega)⟩
   have HNE:=AC (show ∀(i r:Nat),RS[i]? =some r->w.heap.size<r/\r<wr.heap.size/\b5≠r/\b6≠r/\b7≠r/\b8≠r from fun i r hr=>by
    obtain ⟨f,hf⟩:=hRF i r hr
    have h0:0<FZ.length:=by have:=(zy.1 hf).1;omega
    obtain ⟨x,y,z⟩:=(AB HS).rs i r f hr hf
    have e5:=(h5 h0).1
    have e6:=(h6 h0).1
    have e7:=(h7 h0).1
    have e8:=(h8 h0).1
    subst e5 e6 e7 e8
    exact ⟨x,y,IB t5 z (by decide),IB t6 z (by decide),IB t7 z (by decide),IB t8 z (by decide)⟩)
   have HPC:=AC (AB HPR wr a8 b8 k8 _ hbl (fun h=>⟨(h8 h).1,(h8 h).2.2.1⟩) ((AB HS).handed hRS (fun h=>⟨(h8 h).1,(h8 h).2.2.2⟩)))
   have H5:=AC h5
   have H6:=AC h6
   have H7:=AC h7
   have H8:=AC h8
   have HBL:=AC hbl
   have s0:wr.cell? (pK w.heap.size 0)=some (.int .i64 lp):=(AB HS).s.cell rfl
   have s1:wr.cell? (pK w.heap.size 1)=some (.int .i64 lf):=(AB HS).s.cell rfl
   have s2:wr.cell? (pK w.heap.size 2)=some (.int .i64 lo):=(AB HS).s.cell rfl
   have s3:wr.cell? (pK w.heap.size 3)=some (.int .i64 li):=(AB HS).s.cell rfl
   have s4:wr.cell? (pK w.heap.size 4)=some (.int .i64 lb):=(AB HS).s.cell rfl
   clear t5 t6 t7 t8 h5 h6 h7 h8 hbl hRF HPR
   go_wp2_with fail
   refine (AB HPC).mono ?_
   rintro e w2 ⟨hb2,hor⟩
   obtain ⟨c,kv,ev,rfl,hTell,hres⟩:∃c kv ev,e= .returned (.tuple #[kv,ev])/\(∀w',w'.cell? (pK 0 0)=some (.iface 206 (.agg #[pq 6 41]))->Calls Tryz.prog 8 #[ev] w' fun e w''=>e= .returned (.int .i64 c)/\Below w'.heap.size w' w'')/\(FX lp lf lo li lb FZ c/\kv= .pointer none\/E5 lp lf lo li lb FZ/\c=0/\∃kp,kv= .pointer (some kp)/\KR w2 wr.heap.size kp ((B6 lp lf lo li lb).puts FZ).2):=by
    rcases hor with ⟨c,hc,rfl⟩|⟨hg,kp,rfl,hk⟩
    ·exact ⟨c,_,_,rfl,fun w' h=>PO c w' h,.inl ⟨hc,rfl⟩⟩
    ·exact ⟨0,_,_,rfl,fun w' _=>KA w',.inr ⟨hg,rfl,kp,rfl,hk⟩⟩
   have hbw2:Below w.heap.size w w2:=(AB HBL).trans (hb2.mono (by omega))
   have HTC:=AC (hTell w2 (by rw [hbw2.cell (p:=(pK 0 0)) hge];exact AB HG))
   have HRES:=AC hres
   have HB2:=AC hb2
   clear hor hTell hres hb2 hbw2 HPC s0 s1 s2 s3 s4 c5
   go_wp2_with fail
   refine (AB HTC).mono ?_
   rintro e w3 ⟨rfl,hb3⟩
   have HB3:=AC (show Below wr.heap.size wr w3 from (AB HB2).trans (hb3.mono (AB HB2).size))
   have HS3:=AC ((AB HS).move (AB HB3))
   have HKR:=AC (show FX lp lf lo li lb FZ c/\kv= .pointer none\/E5 lp lf lo li lb FZ/\c=0/\∃kp,kv= .pointer (some kp)/\KR w3 wr.heap.size kp ((B6 lp lf lo li lb).puts FZ).2 from by
    rcases AB HRES with h|⟨hg,hc,kp,hk,hr⟩
    ·exact .inl h
    ·exact .inr ⟨hg,hc,kp,hk,AB HST _ _ _ _ _ hr hb3.size (fun k _ hk2=>hb3.block k hk2)⟩)
   obtain ⟨BB,hBB⟩:∃BB,BB=wr.heap.size:=⟨_,rfl⟩
   rw [<-hBB] at HKR HNE
   have hbs3:BB<=w3.heap.size:=by rw [hBB];exact (AB HB3).size
   have hwbb:w.heap.size<=BB:=by omega
   have HC8:=AC (show ∀h:0<FZ.length,a8=some (pK b8 0)/\∀j u,(Dn FZ RS FZ.length)[j]? =some u->w3.cell? (pK b8 j)=some u from fun h=>⟨(AB H8 h).1,fun j u hu=>by rw [(AB HB3).cell (p:=(pK b8 j)) (AB H8 h).2.2.1];exact (AB H8 h).2.2.2 j u hu⟩)
   have HC5:=AC (show ∀h:0<FZ.length,a5=some (pK b5 0)/\∀j u,(F3 FZ FZ.length)[j]? =some u->w3.cell? (pK b5 j)=some u from fun h=>⟨(AB H5 h).1,fun j u hu=>by rw [(AB HB3).cell (p:=(pK b5 j)) (AB H5 h).2.2.1];exact (AB H5 h).2.2.2 j u hu⟩)
   have HC6:=AC (show ∀h:0<FZ.length,a6=some (pK b6 0)/\∀j u,(H9 FZ FZ.length)[j]? =some u->w3.cell? (pK b6 j)=some u from fun h=>⟨(AB H6 h).1,fun j u hu=>by rw [(AB HB3).cell (p:=(pK b6 j)) (AB H6 h).2.2.1];exact (AB H6 h).2.2.2 j u hu⟩)
   have HC7:=AC (show ∀h:0<FZ.length,a7=some (pK b7 0)/\∀j u,(F4 FZ LS FZ.length)[j]? =some u->w3.cell? (pK b7 j)=some u from fun h=>⟨(AB H7 h).1,fun j u hu=>by rw [(AB HB3).cell (p:=(pK b7 j)) (AB H7 h).2.2.1];exact (AB H7 h).2.2.2 j u hu⟩)
   clear hb3 HTC HRES HB2 HS HBL H5 H6 H7 H8 hBB hsl HB3
   go_wp2
   go_loopw [15] (fun i wq=>∃j:Nat,j<=FZ.length/\i= .int .i64 j/\Hid (EX w3 wq RS j)) (fun i _=>FZ.length-(intOf i).toNat)
   case atStart=>exact ⟨0,by omega,rfl,AC ⟨rfl,rfl,rfl,zx _,fun _ _ _=>rfl⟩⟩
   case round=>
    obtain ⟨j,hj,rfl,HO⟩:=hrel
    have hso:=(AB HO).size
    by_cases hlt2:j<FZ.length
    ·obtain ⟨f,hf⟩:∃f,FZ[j]? =some f:=⟨_,zz hlt2⟩
     obtain ⟨l,hl⟩:∃l,LS[j]? =some l:=⟨_,zz (by rw [(AB HF).len];exact hlt2)⟩
     obtain ⟨r,hr⟩:∃r,RS[j]? =some r:=⟨_,zz (by omega)⟩
     obtain ⟨rfl,hfb⟩:=AB HFA (by omega)
     obtain ⟨rfl,hc8⟩:=AB HC8 (by omega)
     obtain ⟨g0,g1,g2,g3,g4⟩:=(AB HF).at_ j f l hf hl
     obtain ⟨hr1,hr2,_,_,_,hr8⟩:=AB HNE j r hr
     have hhr:=((AB HS3).rs j r f hr hf).2.2
     have hne:∀(i q:Nat),i<j->RS[i]? =some q->r≠q:=fun i q hi hq=>by have:=(AB HS3).inc i j q r hi hq hr;omega
     have hhw:=(AB HO).holds hhr hne
     have hbw:Below w.heap.size w wr:=(AB HS3).bl.trans ((AB HO).below (by have:=(AB HS3).bl.size;omega) (fun i q hq=>by have:=(AB HNE i q hq).1;omega))
     have hj0:(0:Int)<=(j:Int):=by omega
     have hj1:(j:Int)<(FZ.length:Int):=by omega
     have hbsz:f.bytes.length<=1000000:=by
      have h1:=Gs hf
      have h2:=F5 FZ (j+1)
      have h3:=AB HSUM
      omega
     have L1:=AC (show ∀w',wr.grownBy w' (some r)->(Instr.loadAt 32 (pq b8 (j*3+2))).run Tryz.prog w'= .ok (.slice (some (pK r 0)) f.bytes.length (f.bytes.length+2)) w' from fun w' h=>by
      have cc:w'.cell? (pK b8 (j*3+2))=some (.slice (some (pK r 0)) f.bytes.length (f.bytes.length+2)):=h.cell ((AB HO).cell (hc8 _ _ (Ix FZ RS FZ.length j 2 r f _ hlt2 hf hr (by omega) rfl)) (fun i q _ hq=>(AB HNE i q hq).2.2.2.2.2)) (by simpa using hr8)
      go_simp)
     have L2:=AC (show ∀w',wr.grownBy w' (some r)->(Instr.loadAt 24 (pq w.heap.size 5)).run Tryz.prog w'= .ok (.slice (some (pK fb foff)) FZ.length fcap) w' from fun w' h=>by
      have cc:w'.cell? (pK w.heap.size 5)=some (.slice (some (pK fb foff)) FZ.length fcap):=h.cell ((AB HO).cell ((AB HS3).s.cell rfl) (fun i q _ hq=>by have:=(AB HNE i q hq).1;omega)) (by simp;omega)
      go_simp)
     have L3:=AC (show ∀w',wr.grownBy w' (some r)->(Instr.loadAt 32 (pq fb (foff+j*3+2))).run Tryz.prog w'= .ok (.slice l.a f.bytes.length l.c) w' from fun w' h=>by
      have cc:w'.cell? (pK fb (foff+j*3+2))=some (.slice l.a f.bytes.length l.c):=h.cell (by rw [hbw.cell (p:=(pK fb (foff+j*3+2))) hfb];exact g2) (by simp;omega)
      go_simp)
     have HSTI:=AC (XT r l.a l.q l.o l.c f.bytes wr.drew (hhw.heap rfl) (fun h=>(g3 h).1) (fun k hk=>by
      have:wr.drew.cell? (pK l.q (l.o+k))=wr.cell? (pK l.q (l.o+k)):=rfl
      rw [this,hbw.cell (p:=(pK l.q (l.o+k))) (g3 (by omega)).2];exact g4 k hk) hbsz)
     have HRJ:=AC hr
     have S0:wr.grownBy wr.drew (some r):=⟨rfl,rfl,rfl,zx _,fun _ _ _=>rfl⟩
     clear hf hl hr g0 g1 g2 g3 g4 hhr hne hhw hbw hc8
     go_upto_region 19 with fail
     refine BA ?_
     intro A hA
     have e1:A.eval (.tmp 1)= pq w.heap.size 0:=by rw [hA];rfl
     have e8:A.eval (.tmp 8)= .slice (some (pK b8 0)) FZ.length k8:=by rw [hA];rfl
     have e15:A.eval (.tmp 15)= .int .i64 j:=by rw [hA];rfl
     have esz:A.tmps.size=129:=by rw [hA];rfl
     have HA:=AC hA
     clear hA
     refine wp_region_held_drew (S:=fun w'=>wr.grownBy w' (some r)) (by kernel_rfl) S0 (fun hS=> ?_)
     refine tk 0 (some 74) rfl rfl (by kernel_rfl) (fun _ _ _=>id) (AK rfl _ rfl (.slice (some (pK b8 0)) FZ.length k8) (by simp [AF,AE,esz,e1,e8,e15])) hS ?_
     refine tk 1 (some 75) rfl rfl (by kernel_rfl) (fun _ _ _=>id) (AK rfl _ rfl (.int .i64 j) (by simp [AF,AE,esz,e1,e8,e15])) hS ?_
     refine tk 2 (some 76) rfl rfl (by kernel_rfl) (fun _ _ _=>id) (BM rfl _ _ _ rfl (.slice (some (pK b8 0)) FZ.length k8) (.int .i64 j) (by simp [AF,AE,esz,e1,e8,e15]) (by simp [AF,AE,esz,e1,e8,e15]) (pq b8 (j*3)) (fun w'=>by go_simp)) hS ?_
     refine tk 3 (some 77) rfl rfl (by kernel_rfl) (fun _ _ _=>id) (AO rfl _ _ _ rfl (pq b8 (j*3)) (by simp [AF,AE,esz,e1,e8,e15]) (pq b8 (j*3+2)) (fun w'=>by go_simp)) hS ?_
     refine tk 4 (some 78) rfl rfl (by kernel_rfl) (fun _ _ _=>id) (AQ rfl _ _ rfl (pK b8 (j*3+2)) (by simp [AF,AE,esz,e1,e8,e15]) (.slice (some (pK r 0)) f.bytes.length (f.bytes.length+2)) (AB L1)) hS ?_
     refine tk 5 (some 79) rfl rfl (by kernel_rfl) (fun _ _ _=>id) (AO rfl _ _ _ rfl (pq w.heap.size 0) (by simp [AF,AE,esz,e1,e8,e15]) (pq w.heap.size 5) (fun w'=>by go_simp)) hS ?_
     refine tk 6 (some 80) rfl rfl (by kernel_rfl) (fun _ _ _=>id) (AQ rfl _ _ rfl (pK w.heap.size 5) (by simp [AF,AE,esz,e1,e8,e15]) (.slice (some (pK fb foff)) FZ.length fcap) (AB L2)) hS ?_
     refine tk 7 (some 81) rfl rfl (by kernel_rfl) (fun _ _ _=>id) (AK rfl _ rfl (.int .i64 j) (by simp [AF,AE,esz,e1,e8,e15])) hS ?_
     refine tk 8 (some 82) rfl rfl (by kernel_rfl) (fun _ _ _=>id) (BM rfl _ _ _ rfl (.slice (some (pK fb foff)) FZ.length fcap) (.int .i64 j) (by simp [AF,AE,esz,e1,e8,e15]) (by simp [AF,AE,esz,e1,e8,e15]) (pq fb (foff+j*3)) (fun w'=>by go_simp)) hS ?_
     refine tk 9 (some 83) rfl rfl (by kernel_rfl) (fun _ _ _=>id) (AO rfl _ _ _ rfl (pq fb (foff+j*3)) (by simp [AF,AE,esz,e1,e8,e15]) (pq fb (foff+j*3+2)) (fun w'=>by go_simp)) hS ?_
     refine tk 10 (some 84) rfl rfl (by kernel_rfl) (fun _ _ _=>id) (AQ rfl _ _ rfl (pK fb (foff+j*3+2)) (by simp [AF,AE,esz,e1,e8,e15]) (.slice l.a f.bytes.length l.c) (AB L3)) hS ?_
     refine rdy [11] (by kernel_rfl) (AllReadyH.cons rfl (fun K hK=> ?_) AllReadyH.nil)
     refine Hx rfl 17 78 84 _ _ rfl (.slice (some (pK r 0)) f.bytes.length (f.bytes.length+2)) (.slice l.a f.bytes.length l.c) (by simp [AF,AE,esz,e1,e8,e15]) (by simp [AF,AE,esz,e1,e8,e15]) U8 _ (.bool true) (fun e w' h=>h.1) (AB HSTI) (some 85) rfl ?_
     rintro w4 ⟨_,hg4⟩
     have S4:wr.grownBy w4 (some r):=⟨hg4.os,hg4.tape,hg4.output,hg4.size,hg4.block⟩
     refine hK.out _ _ S4 (fun _=> ?_)
     clear hK K
     refine tk 12 (some 16) rfl rfl (by kernel_rfl) (fun _ _ _=>id) (Bj rfl (v:= .bool true) (fun w' _=>by simp only [execOp];simp [AF,AE,esz])) S4 ?_
     refine wpAnyH_done (by kernel_rfl) ?_ _
     rw [AB HA]
     simp only [Act.put,zm,zi,zj]
     have HO4:=AC ((AB HO).step (AB HRJ) S4)
     clear hg4 S4 HA e1 e8 e15 esz L1 L2 L3 S0 hS HSTI
     go_wp2
     go_roundw
     case rel=>exact ⟨j+1,by omega,by go_num,HO4⟩
     case measure=>simp [intOf];omega
    ·have hje:j=FZ.length:=by omega
     subst hje
     have hbw:Below w.heap.size w wr:=(AB HS3).bl.trans ((AB HO).below (by have:=(AB HS3).bl.size;omega) (fun i q hq=>by have:=(AB HNE i q hq).1;omega))
     have hsc:∀(i:Nat) (v:Value),(Gd lp lf lo li lb (.slice fa FZ.length fcap))[i]? =some v->wr.cell? (pK w.heap.size i)=some v:=fun i v hv=>(AB HO).cell ((AB HS3).s.cell hv) (fun i q _ hq=>by have:=(AB HNE i q hq).1;omega)
     have s0:=hsc 0 _ rfl
     have s1:=hsc 1 _ rfl
     have s2:=hsc 2 _ rfl
     have s3:=hsc 3 _ rfl
     have s4:=hsc 4 _ rfl
     obtain ⟨W5,hW5⟩:∃W5,W5=wr.alloc (Obj.cells #[.int .i64 lp,.int .i64 lf,.int .i64 lo,.int .i64 li,.int .i64 lb] 70):=⟨_,rfl⟩
     have hb5:Below wr.heap.size wr W5:=by rw [hW5];exact (zw _ _).alloc (zx _) _
     have hn5:AG W5 wr.heap.size 70 [.int .i64 lp,.int .i64 lf,.int .i64 lo,.int .i64 li,.int .i64 lb]:=by rw [hW5];exact AG.new wr 70 _
     have hbw5:Below w.heap.size w W5:=hbw.trans (hb5.mono hbw.size)
     obtain ⟨pb,db,bb,hlt5,hpa5,hfa5⟩:∃pb db bb,(pb<W5.heap.size/\db<W5.heap.size/\bb<W5.heap.size)/\(0<FZ.length->a5=some (pK pb 0)/\a6=some (pK db 0)/\a7=some (pK bb 0))/\MV W5 pb 0 db 0 bb 0 FZ:=by
      have hz5:=hn5.lt
      by_cases h0:0<FZ.length
      ·obtain ⟨x5,y5⟩:=AB HC5 h0
       obtain ⟨x6,y6⟩:=AB HC6 h0
       obtain ⟨x7,y7⟩:=AB HC7 h0
       have m5:∀j u,(F3 FZ FZ.length)[j]? =some u->W5.cell? (pK b5 j)=some u:=fun j u hu=>by
        have:=(AB HO).cell (y5 j u hu) (fun i q _ hq=>(AB HNE i q hq).2.2.1)
        rw [hb5.cell (p:=(pK b5 j)) (zu wr _ this)];exact this
       have m6:∀j u,(H9 FZ FZ.length)[j]? =some u->W5.cell? (pK b6 j)=some u:=fun j u hu=>by
        have:=(AB HO).cell (y6 j u hu) (fun i q _ hq=>(AB HNE i q hq).2.2.2.1)
        rw [hb5.cell (p:=(pK b6 j)) (zu wr _ this)];exact this
       have m7:∀j u,(F4 FZ LS FZ.length)[j]? =some u->W5.cell? (pK b7 j)=some u:=fun j u hu=>by
        have:=(AB HO).cell (y7 j u hu) (fun i q _ hq=>(AB HNE i q hq).2.2.2.2.1)
        rw [hb5.cell (p:=(pK b7 j)) (zu wr _ this)];exact this
       obtain ⟨f,hf⟩:∃f,FZ[0]? =some f:=⟨_,zz h0⟩
       obtain ⟨l,hl⟩:∃l,LS[0]? =some l:=⟨_,zz (by rw [(AB HF).len];exact h0)⟩
       refine ⟨b5,b6,b7,⟨zu W5 _ (m5 0 _ (Lv hf)),zu W5 _ (m6 0 _ (Nf hf)),zu W5 _ (m7 0 _ (Lw hf hl))⟩,fun _=>⟨x5,x6,x7⟩,?_⟩
       exact U0 (AB HF) hbw5 (fun i f hf=>m5 i _ (Lv hf)) (fun i f hf=>m6 i _ (Nf hf)) (fun i f l hf hl=>m7 i _ (Lw hf hl))
      ·have hnil:FZ=[]:=List.eq_nil_of_length_eq_zero (by omega)
       subst hnil
       exact ⟨0,0,0,⟨by omega,by omega,by omega⟩,fun h=>absurd h h0,⟨fun i f h=>by simp at h,fun i f h=>by simp at h,fun i f h=>by simp at h⟩⟩
     have HRB:=AC (TA lp lf lo li lb a5 a6 a7 pb 0 k5 db 0 k6 bb 0 k7 FZ W5 hn (AB HSUM) hpa5 hfa5 hlt5 (AB HPS))
     have HB5:=AC hbw5
     have HW5:=AC hW5
     have z0:=hn5.cell (j:=0) rfl
     have z1:=hn5.cell (j:=1) rfl
     have z2:=hn5.cell (j:=2) rfl
     have z3:=hn5.cell (j:=3) rfl
     have z4:=hn5.cell (j:=4) rfl
     have hszo:BB<=wr.heap.size:=by omega
     have hbb5:BB<=W5.heap.size:=by have:=hb5.size;omega
     have HK5:=AC (show FX lp lf lo li lb FZ c/\kv= .pointer none\/E5 lp lf lo li lb FZ/\c=0/\∃kp,kv= .pointer (some kp)/\KR W5 BB kp ((B6 lp lf lo li lb).puts FZ).2 from by
      rcases AB HKR with h|⟨hg,hc,kp,hk,hr⟩
      ·exact .inl h
      ·refine .inr ⟨hg,hc,kp,hk,AB HST _ _ _ _ _ hr (by have:=hb5.size;omega) (fun k hk1 hk2=> ?_)⟩
       rw [hb5.block k (by omega)]
       exact (AB HO).block k hk2 (fun i q _ hq=>by have:=(AB HNE i q hq).2.1;omega))
     clear hbw hsc hb5 hn5 hbw5 hlt5 hpa5 hfa5 hW5 HO
     go_upto_region 23 with fail
     rw [<-AB HW5]
     clear s0 s1 s2 s3 s4
     go_wp2_with fail
     refine (AB HRB).mono ?_
     rintro e w7 ⟨hb7,hor7⟩
     have HB7:=AC ((AB HB5).trans (hb7.mono (AB HB5).size))
     clear z0 z1 z2 z3 z4 HRB
     rcases hor7 with ⟨c7,hc7,rfl⟩|⟨hg7,rfl,k7',cs,g7,cap7,gp,pc,gn,cn,hbt⟩
     ·rcases AB HK5 with ⟨hcb,rfl⟩|⟨hg,_⟩
      case inr=>exact (Iy hc7 hg).elim
      obtain rfl:=Qv hc7 hcb
      have hcn:=U6 hc7
      have hc0:(c7 !=0)=true:=by simpa using hcn
      have HCN:=AC hcn
      clear hcn hc7 hcb hb7
      unfold Im
      go_wp2_with (go_at_call 19;refine (TE _ _).mono ?_;rintro e w8 ⟨rfl,rfl⟩)
      exact bodyPost_ret (v:= .tuple #[pq w8.heap.size 0,.int .i64 c7,.bool true]) (by simp [results,Tryz.results10,go_sem]) rfl ⟨(AB HB7).alloc (AB HB7).size _,.inl ⟨c7,_,AB HCN,rfl⟩⟩
     ·rcases AB HK5 with ⟨hcb,rfl⟩|⟨hg,rfl,kp,rfl,hkr⟩
      case inl=>exact (Iy hcb hg7).elim
      unfold Ni
      go_wp2_with (go_at_call 19;refine (TE _ _).mono ?_;rintro e w8 ⟨rfl,rfl⟩)
      have hs7:=(AB HB7).size
      have hs5:=(AB HB5).size
      have hal:Below w8.heap.size w8 (w8.alloc (Obj.cells (Iz (.pointer (some kp)) (pq (W5.heap.size+1) 0)).toArray 55)):=(zw _ _).alloc (zx _) _
      exact bodyPost_ret (v:= .tuple #[pq w8.heap.size 0,.int .i64 0,.bool true]) (by simp [results,Tryz.results10,go_sem]) rfl ⟨(AB HB7).alloc hs7 _,.inr ⟨hg7,w8.heap.size,BB,kp,W5,k7',cs,g7,cap7,gp,pc,gn,cn,rfl,hs7,AG.new w8 55 (Iz (.pointer (some kp)) (pq (W5.heap.size+1) 0)),
       AB HST _ _ _ _ _ hkr (by have h1:=hb7.size;have h2:=hal.size;exact zh h1 h2) (fun k hk1 hk2=>by have h1:=hb7.size;exact (hal.block k (by omega)).trans (hb7.block k hk2)),hs5,hbt.below hal,hkr,hb7.trans (hal.mono hb7.size),⟨hbt.rep.1.lt,(hbt.procs.lt gp rfl).2,(hbt.pages.lt gn rfl).2⟩,hwbb,hbb5⟩⟩
end
section
open Go Go.RowKit
def IU (PC im:Int) (t:Bool):Int:=if t=true then IntKind.u64.wrap (PC+IntKind.u64.wrap im) else IntKind.u64.wrap (PC+4)
def EZ (w:World) (n:Int) (e:Ending) (w':World):Prop:=e= .returned (.int .u64 n)/\Below w.heap.size w w'
theorem VK {w:World} {pb co:Nat} {PC U V op:Int} {a b:Nat} {im:Int} (K:Parts w pb co PC U V op a b im) (h0:0<=V):Calls Tryz.prog 326 #[pq pb co,.agg #[.int .u8 op,.int .i64 (a:Int),.int .i64 (b:Int),.int .i16 im]] w (EZ w (V%64)):=by
 have HK:=AC K
 have HB:=AC (Ad.new w op a b im)
 have BX:=AC (Ad.new w op a b im).c
 clear K
 have hm:V.tmod 64=V%64:=yn h0
 go_enter Tryz.func326,Tryz.ntmps326
 go_wp2_with (first|(go_at_call 323;refine ((AB HK).rb _ (AB HB)).mono ?_;rintro e wn ⟨rfl,hb⟩;clear HB BX;have BX:=AC hb.c;have HB:=AC hb;clear hb))
 go_ret
 exact ⟨by first|rfl|rw [hm],(AB HB).below⟩
theorem aX {w:World} {pb co:Nat} {PC U V op:Int} {a b:Nat} {im:Int} (K:Parts w pb co PC U V op a b im):Calls Tryz.prog 328 #[pq pb co,.agg #[.int .u8 op,.int .i64 (a:Int),.int .i64 (b:Int),.int .i16 im]] w (EZ w (IntKind.u64.wrap (V+IntKind.u64.wrap im))):=by
 have HK:=AC K
 have HB:=AC (Ad.new w op a b im).drew
 have BX:=AC (Ad.new w op a b im).drew.c
 clear K
 go_enter Tryz.func328,Tryz.ntmps328
 go_wp2
 go_region_held (fun W=>W.cell? (pK w.heap.size 0)=some (.int .u8 op)/\W.cell? (pK w.heap.size 1)=some (.int .i64 (a:Int))/\W.cell? (pK w.heap.size 2)=some (.int .i64 (b:Int))/\W.cell? (pK w.heap.size 3)=some (.int .i16 im)) (exact AB BX) (first|(go_at_call 323;refine ((AB HK).rb _ (AB HB)).mono ?_;rintro e wn ⟨rfl,hb⟩;clear HB BX;have BX:=AC hb.c;have HB:=AC hb;clear hb)|(go_at_call 322;refine ((AB HK).ri _ (AB HB)).mono ?_;rintro e wn ⟨rfl,hb⟩;clear HB BX;have BX:=AC hb.c;have HB:=AC hb;clear hb))
 go_wp2
 go_ret
 exact ⟨rfl,(AB HB).below⟩
theorem VL {w:World} {pb co:Nat} {PC U V op:Int} {a b:Nat} {im:Int} (K:Parts w pb co PC U V op a b im) (hp:w.cell? (pK pb co)=some (.int .u64 PC)) (t:Bool):Calls Tryz.prog 330 #[pq pb co,.agg #[.int .u8 op,.int .i64 (a:Int),.int .i64 (b:Int),.int .i16 im],.bool t] w (EZ w (IU PC im t)):=by
 have HP:=AC (show ∀W,Ad w W op a b im->W.cell? (pK pb co)=some (.int .u64 PC) from fun W hW=>by rw [hW.below.cell (p:=(pK pb co)) (zu w _ hp)];exact hp)
 clear hp
 cases t with
 |true=>
  have HK:=AC K
  have HB:=AC (Ad.new w op a b im).drew
  have BX:=AC (show JT w _ op a b im/\_ from ⟨(Ad.new w op a b im).drew.c,AB HP _ (Ad.new w op a b im).drew⟩)
  clear K
  go_enter Tryz.func330,Tryz.ntmps330
  go_wp2
  go_region_held (fun W=>W.cell? (pK w.heap.size 0)=some (.int .u8 op)/\W.cell? (pK w.heap.size 1)=some (.int .i64 (a:Int))/\W.cell? (pK w.heap.size 2)=some (.int .i64 (b:Int))/\W.cell? (pK w.heap.size 3)=some (.int .i16 im)/\W.cell? (pK pb co)=some (.int .u64 PC)) ((have hh:=AB BX;exact ⟨hh.1.1,hh.1.2.1,hh.1.2.2.1,hh.1.2.2.2,hh.2⟩)) (first|(go_at_call 322;refine ((AB HK).ri _ (AB HB)).mono ?_;rintro e wn ⟨rfl,hb⟩;clear HB BX;have BX:=AC (show JT w _ op a b im/\_ from ⟨hb.c,AB HP _ hb⟩);have HB:=AC hb;clear hb))
  go_wp2
  go_ret
  exact ⟨rfl,(AB HB).below⟩
 |false=>
  have HK:=AC K
  have HB:=AC (Ad.new w op a b im)
  have BX:=AC (Ad.new w op a b im).c
  clear K
  go_enter Tryz.func330,Tryz.ntmps330
  go_wp2_with (first|(go_at_call 325;refine ((AB HK).next _ (AB HB)).mono ?_;rintro e wn ⟨rfl,hb⟩;clear HB BX;have BX:=AC hb.c;have HB:=AC hb;clear hb))
  go_ret
  exact ⟨rfl,(AB HB).below⟩
structure Parts2 (w:World) (pb co:Nat) (PC U V op:Int) (a b:Nat) (im:Int):Prop extends Parts w pb co PC U V op a b im where
 pl:∀W,Ad w W op a b im->Calls Tryz.prog 326 #[pq pb co,.agg #[.int .u8 op,.int .i64 (a:Int),.int .i64 (b:Int),.int .i16 im]] W fun e w'=>e= .returned (.int .u64 (V%64))/\Ad w w' op a b im
 ad:∀W,Ad w W op a b im->Calls Tryz.prog 328 #[pq pb co,.agg #[.int .u8 op,.int .i64 (a:Int),.int .i64 (b:Int),.int .i16 im]] W fun e w'=>e= .returned (.int .u64 (IntKind.u64.wrap (V+IntKind.u64.wrap im)))/\Ad w w' op a b im
 br:∀W t,Ad w W op a b im->Calls Tryz.prog 330 #[pq pb co,.agg #[.int .u8 op,.int .i64 (a:Int),.int .i64 (b:Int),.int .i16 im],.bool t] W fun e w'=>e= .returned (.int .u64 (IU PC im t))/\Ad w w' op a b im
theorem G9.parts2 {w:World} {pb co:Nat} {PC:Int} {R:List Int} (h:G9 w pb co PC R) (op:Int) {a b:Nat} {im:Int} (ha:a<16) (hb:b<16) (hi: -32768<=im/\im<=32767) (h0:0<=R.getD b 0):Parts2 w pb co PC (R.getD a 0) (R.getD b 0) op a b im where
 toParts:=h.parts op ha hb hi
 pl W hW:=(VK ((h.below hW.below).parts op ha hb hi) h0).mono (fun e w' he=>⟨he.1,hW.next he.2⟩)
 ad W hW:=(aX ((h.below hW.below).parts op ha hb hi)).mono (fun e w' he=>⟨he.1,hW.next he.2⟩)
 br W t hW:=(VL ((h.below hW.below).parts op ha hb hi) (h.below hW.below).pc t).mono (fun e w' he=>⟨he.1,hW.next he.2⟩)
end
end Go.Proofs.YtdchgbmliojoiaaGreatDoor
