import Derived.Test.YtdchgbmliojoiaaGreatDoorG14
import Derived.Test.YtdchgbmliojoiaaGreatDoorG09
import Derived.Test.YtdchgbmliojoiaaGreatDoorG08
set_option maxRecDepth 100000
set_option maxHeartbeats 4000000
set_option linter.unusedVariables false
set_option linter.unusedSimpArgs false
namespace Go.Proofs.YtdchgbmliojoiaaGreatDoor
open Go.RowKit
def Fl:Value:= .agg #[.int .u64 0,.slice none 0 0]
def GX (c:Int):Ending:= .returned (.tuple #[Fl,.iface 47 (.int .i64 c)])
def Bq (B:List Int):Nat:=(AW B 56 2).toNat
def Ii (B:List Int):Prop:=∀i,i<Bq B->Ff B (64+56*i)
def Ub (ss:List Seg):Prop:=∀i j,i<j->j<ss.length->(ss.getD i Dw).addr<=(ss.getD j Dw).addr
def BQ (B:List Int) (ss:List Seg):List Pg:=ss.flatMap fun s=>Dk B s s.count
def SU (B:List Int) (w:World) (e:Ending) (w':World):Prop:=
 (¬B5 B/\e=GX 2\/B5 B/\¬Ii B/\e=GX 3\/
  B5 B/\Ii B/\∃ss:List Seg,ss.Perm (BP B (Bq B))/\Ub ss/\
   ((∃i,i+1<ss.length/\Kz ss i)/\e=GX 4\/
   (∀i,i+1<ss.length->¬Kz ss i)/\(¬Pa (AW B 24 8) ss/\e=GX 5\/
    Pa (AW B 24 8) ss/\∃g gc,e= .returned (.tuple #[.agg #[.int .u64 (AW B 24 8),.slice (some (pK g 0)) (BQ B ss).length gc],.nilIface])/\w'.ownsRow w.heap.size 166 258 (.slice (some (pK g 0)) (BQ B ss).length gc) (BQ B ss).length (BG (BQ B ss)))))/\Below w.heap.size w w'
theorem Ij {W w:World} {p:Nat} (h:AG W p 199 [.int .u64 0,.slice none 0 0]) (hb:Below p w W):
  ((W.setCell (pK p 0) (.int .u64 0)).setCell (pK p 1) (.slice none 0 0)).cell? (pK p 0)=some (.int .u64 0)/\((W.setCell (pK p 0) (.int .u64 0)).setCell (pK p 1) (.slice none 0 0)).cell? (pK p 1)=some (.slice none 0 0)/\
  Below p w ((W.setCell (pK p 0) (.int .u64 0)).setCell (pK p 1) (.slice none 0 0)):=
 have h2:=(h.set 0 (.int .u64 0)).set 1 (.slice none 0 0)
 ⟨h2.cell rfl,h2.cell rfl,(hb.setCell (p:=(pK p 0)) (zx _) _).setCell (p:=(pK p 1)) (zx _) _⟩
theorem Xe {B:List Int} (hB:AY B) {p:Nat} (h:Ff B p):EI B (Dc B p):=
 ⟨(BH hB _ _ (by omega)).1,(BH hB _ _ (by omega)).1,(BH hB _ _ (by omega)).1,h.2.2.1,h.2.2.2.1,h.2.2.2.2.1,h.2.2.2.2.2.2⟩
theorem M5 {B:List Int} (hB:AY B) {n:Nat} (h:∀i,i<n->Ff B (64+56*i)) {ss:List Seg} (hp:ss.Perm (BP B n)):∀s∈ss,EI B s:=by
 intro s hs
 have:=hp.mem_iff.1 hs
 obtain ⟨i,hi,rfl⟩:=yw.1 this
 exact Xe hB (h i (by simpa using hi))
theorem Lh (B:List Int) (ss:List Seg) (k:Nat) (s:Seg) (h:ss[k]? =some s):BQ B (ss.take (k+1))=BQ B (ss.take k)++Dk B s s.count:=by
 have:ss.take (k+1)=ss.take k++[s]:=by rw [List.take_add_one,h];rfl
 rw [this,BQ,List.flatMap_append];simp [BQ]
theorem Gq (a b:List Pg):BG (a++b)=BG a++BG b:=by simp [BG]
theorem G3 {B:List Int} {s:Seg} (h:EI B s):1<=s.count/\s.count<=255:=by
 obtain ⟨a0,o0,i0,m1,hfm,hfit,htop⟩:=h
 unfold Seg.count Seg.last Seg.first
 omega
theorem Xf {B:List Int} {ss:List Seg} (h:∀s∈ss,EI B s):(BQ B ss).length<=ss.length*255:=by
 induction ss with
 |nil=>simp [BQ]
 |cons s r ih=>
  have h1:=ih (fun x hx=>h x (List.mem_cons_of_mem _ hx))
  have h2:=(G3 (h s yr)).2
  have e:BQ B (s::r)=Dk B s s.count++BQ B r:=by simp [BQ]
  rw [e,zn,Dv,List.length_cons]
  omega
theorem Uc {P:Program} {ops:Array Oper} {o:Oper} {a:Act} {w:World} {K:Act->World->Prop} {Q:Exit->Act->World->Prop} {E:Prop} (hgd:o.guard=none) (f n:Nat) (t:TypeId)
  (ho:o.op= .call {callee:= .value (.func f),args:=#[.tmp n],argTypes:=#[t]}) (val:Value) (hx:a.eval (.tmp n)=val)
  (he:∀args w,(callFunc f args).run P w= .ok (.enter f args) w) (r:Value) (post:World->Prop) (hc:Calls P f #[val] w fun e w'=>e= .returned r/\post w')
  (h:∀w',post w'->K (a.put o.dst r) w'):
  if Region.wanted o (yielded ops a.tmps)=true then Oper.wp P o a w K Q else E:=by
 have hw:Region.wanted o (yielded ops a.tmps)=true:=by simp [Region.wanted,hgd]
 have hx':a.tmps[n]?.getD undef=val:=by rw [<-hx];simp [go_sem]
 rw [if_pos hw]
 unfold Oper.wp
 simp [execOp,ho,resolve,invoke,hx',Result.andThen,go_sem,he]
 refine hc.mono ?_
 rintro e w' ⟨rfl,hp⟩
 have:=h w' hp
 simpa [go_sem] using this
theorem Ud:∀args w,(callFunc 129 args).run Tryz.prog w= .ok (.enter 129 args) w:=enters_of Tryz.func129 (by kernel_rfl) rfl
theorem EJ {W:World} {base base' size n:Nat} {e:TypeId} {v:Value} {xs:List Value} (h:W.ownsRow base e size v n xs) (hb:base'<=base):W.ownsRow base' e size v n xs:=by
 obtain ⟨h1,h2⟩:=h
 refine ⟨h1,?_⟩
 rcases h2 with h2|⟨g,cap,cur,a,b,c⟩
 ·exact .inl h2
 ·exact .inr ⟨g,cap,cur,a,by omega,c⟩
theorem GH {W:World} {p:Nat} {t:TypeId} {news:List Value} (h:Hid (AG W p t news)):∀j u,news[j]? =some u->W.cell? (((pK p 0):Addr).add j)=some u:=fun j u hj=>by
 rw [CN,zq];exact (AB h).cell hj
theorem M6 (PS:List Pg):∀v∈BG PS,v.oneCell'=true:=by
 intro v hv
 obtain ⟨p,_,hv⟩:=List.mem_flatMap.1 hv
 simp only [Av,List.mem_cons] at hv
 rcases hv with rfl|rfl|hv
 ·rfl
 ·rfl
 ·exact Dj _ v hv
theorem Zd (b off cap:Nat) (B:List Int) (w:World) (hB:AY B) (hcap:B.length<=cap) (hlen:B.length<=500000) (hv:BC w b off B) (hbw:b<w.heap.size) (ht:w.rangeAt 1 0 EU) (hgw:1<w.heap.size):
  Calls Tryz.prog 71 #[.slice (some (pK b off)) B.length cap] w fun e w'=>SU B w e w':=by
 have hal:=(zw w.heap.size w).alloc (zx _) (.cells #[.int .u64 0,.slice none 0 0] 199)
 have HH:=AC (M4 b off cap B (w.alloc (.cells #[.int .u64 0,.slice none 0 0] 199)) hB (by omega) (by omega) (hv.below hal hbw) (by simp;omega) (fun j v hj=>by rw [hal.cell (p:=(pK 1 (0+j))) hgw];exact ht j v hj) (by simp;omega))
 have HB:=AC hB
 have HV:=AC hv
 have HNum:=AC (And.intro hcap hlen)
 clear hB hv ht hal hcap hlen
 go_enter Tryz.func71,Tryz.ntmps71
 go_wp2_with fail
 refine (AB HH).mono ?_
 rintro e w1 ⟨n,ok,rfl,hb1,hok,hn⟩
 have r1:=AG.new w 199 [.int .u64 0,.slice none 0 0]
 have hR1:=r1.below hb1 (by simp)
 have hbl1:=((zw w.heap.size w).alloc (zx _) (.cells #[.int .u64 0,.slice none 0 0] 199)).trans (hb1.mono (by simp))
 have hs1:w.heap.size<w1.heap.size:=hR1.lt
 have HR1:=AC hR1
 have HBL1:=AC hbl1
 have HN:=AC hn
 have HOK:=AC hok
 clear r1 hb1 hR1 hbl1 hn hok HH
 cases ok
 ·have c0:w1.cell? (pK w.heap.size 0)=some (.int .u64 0):=(AB HR1).cell rfl
  have c1:w1.cell? (pK w.heap.size 1)=some (.slice none 0 0):=(AB HR1).cell rfl
  have f0:=(AB HR1).frozen 0
  have f1:=(AB HR1).frozen 1
  obtain ⟨d0,d1,d2⟩:=Ij (AB HR1) (AB HBL1)
  have D2:=AC d2
  clear d2
  go_wp2
  exact bodyPost_ret (v:= .tuple #[Fl,.iface 47 (.int .i64 2)]) (by simp [results,Tryz.results71,go_sem,Fl,d0,d1]) rfl ⟨.inl ⟨fun h=>by (have:=(AB HOK).2 h;cases this),rfl⟩,AB D2⟩
 have hdr:B5 B:=(AB HOK).1 rfl
 have hnn:n=((Bq B:Nat):Int):=by
  have h1:=(AB HN) hdr
  have h2:=hdr.2.2.2.2.2.2.2.2.1
  rw [h1,Bq];omega
 have hc1:1<=Bq B:=by have h2:=hdr.2.2.2.2.2.2.2.2.1;rw [Bq];omega
 have hc8:Bq B<=8:=by have h2:=hdr.2.2.2.2.2.2.2.2.2.1;rw [Bq];omega
 have hcl:64+56*Bq B<=B.length:=by (have h1:=hdr.2.2.2.2.2.2.2.2.1;have h2:=hdr.2.2.2.2.2.2.2.2.2.2;rw [Bq];omega)
 subst hnn
 have HDR:=AC hdr
 obtain ⟨N,hN⟩:∃N,N=Bq B:=⟨_,rfl⟩
 rw [<-hN] at hc1 hc8 hcl ⊢
 have HSC:=AC hN
 have hv1:BC w1 b off B:=(AB HV).below (AB HBL1) hbw
 have HSG:=AC (Kv b off cap B N w1 (AB HB) (AB HNum).1 (AB HNum).2 hv1 (by omega) hc1 hc8 hcl)
 clear hdr hN HN HOK hv1
 go_wp2_with fail
 refine (AB HSG).mono ?_
 rintro e w2 ⟨(⟨aok,rfl,hho⟩|⟨nok,rfl⟩),hb2⟩
 case inr=>
  have hR2:=(AB HR1).below hb2 hs1
  have hbl2:=(AB HBL1).trans (hb2.mono (by omega))
  have c0:w2.cell? (pK w.heap.size 0)=some (.int .u64 0):=hR2.cell rfl
  have c1:w2.cell? (pK w.heap.size 1)=some (.slice none 0 0):=hR2.cell rfl
  have f0:=hR2.frozen 0
  have f1:=hR2.frozen 1
  obtain ⟨d0,d1,d2⟩:=Ij hR2 hbl2
  have D2:=AC d2
  have NOK:=AC nok
  clear d2 nok hR2 hbl2 hb2
  go_wp2
  exact bodyPost_ret (v:= .tuple #[Fl,.iface 47 (.int .i64 3)]) (by simp [results,Tryz.results71,go_sem,Fl,d0,d1]) rfl ⟨.inr (.inl ⟨AB HDR,fun h=>AB NOK (by rw [AB HSC];exact h),rfl⟩),AB D2⟩
 have hR2:=(AB HR1).below hb2 hs1
 have hbl2:=(AB HBL1).trans (hb2.mono (by omega))
 have hsl:(BP B N).length=N:=Ec B N
 have HSO:=AC (Za b off cap w1.heap.size N (BP B N) w2 hho (by omega))
 rw [hsl] at HSO
 have hs2:w1.heap.size<w2.heap.size:=hho.lt
 have HR2:=AC hR2
 have HBL2:=AC hbl2
 have AOK:=AC aok
 clear hR2 hbl2 hb2 aok hho HR1 HBL1 HSG
 go_wp2_with fail
 refine (AB HSO).mono ?_
 rintro e w3 ⟨rfl,ss,hperm,hsorted,hho3,hg3⟩
 have hR3:=(AB HR2).grown hg3 (by simp;omega)
 have hbl3:=(AB HBL2).trans (Ag hg3 (by omega) (by omega))
 have hs3:=hho3.lt
 have hssl:ss.length=N:=by rw [hperm.length_eq,hsl]
 have HPM:=AC hperm
 have HST:=AC hsorted
 have HR3:=AC hR3
 have HBL3:=AC hbl3
 have HHO3:=AC hho3
 have HOV:=AC (SL b off cap w1.heap.size N ss w3 hho3 (by omega) (by omega))
 rw [hssl] at HOV
 clear hperm hsorted hg3 hR3 hbl3 hho3 HR2 HBL2 HSO hsl
 go_wp2_with fail
 refine (AB HOV).mono ?_
 rintro e w4 ⟨(⟨hov,rfl⟩|⟨nov,rfl⟩),hh4,hb4⟩
 case inl=>
  have hR4:=(AB HR3).heap hh4
  have hbl4:=(AB HBL3).trans (hb4.mono (AB HBL3).size)
  have c0:w4.cell? (pK w.heap.size 0)=some (.int .u64 0):=hR4.cell rfl
  have c1:w4.cell? (pK w.heap.size 1)=some (.slice none 0 0):=hR4.cell rfl
  have f0:=hR4.frozen 0
  have f1:=hR4.frozen 1
  obtain ⟨d0,d1,d2⟩:=Ij hR4 hbl4
  have D2:=AC d2
  have OV:=AC hov
  clear d2 hov hR4 hbl4 hb4 hh4
  go_wp2
  exact bodyPost_ret (v:= .tuple #[Fl,.iface 47 (.int .i64 4)]) (by simp [results,Tryz.results71,go_sem,Fl,d0,d1]) rfl ⟨.inr (.inr ⟨AB HDR,by rw [Ii,<-AB HSC];exact AB AOK,ss,by rw [<-AB HSC];exact AB HPM,AB HST,.inl ⟨by rw [hssl];exact AB OV,rfl⟩⟩),AB D2⟩
 have hR4:=(AB HR3).heap hh4
 have hbl4:=(AB HBL3).trans (hb4.mono (AB HBL3).size)
 have hho4:=(AB HHO3).heap hh4
 have hv4:BC w4 b off B:=(AB HV).below hbl4 hbw
 have HR4:=AC hR4
 have HBL4:=AC hbl4
 have HHO4:=AC hho4
 have NOV:=AC nov
 have hs4:=hho4.lt
 have hl64:64<=B.length:=by omega
 have HNU:=AC (CJ b off cap B 24 8 w4 (AB HB) (by omega) (by omega) (by omega) (by have:=(AB HNum).1;omega) (by have:=(AB HNum).2;omega) hv4)
 have hE:=(BH (AB HB) 24 8 (by omega)).1
 obtain ⟨E,hEd⟩:∃E,E=AW B 24 8:=⟨_,rfl⟩
 rw [<-hEd] at hE HNU
 have HED:=AC hEd
 have HEN:=AC (SM b off cap w1.heap.size N E ss w4 hho4 (by omega) hE)
 rw [hssl] at HEN
 clear hR4 hbl4 hho4 hv4 nov hEd hb4 hh4 HR3 HBL3 HHO3 HOV
 go_wp2_with fail
 refine (AB HNU).mono ?_
 rintro e w5 ⟨rfl,hw5⟩
 subst hw5
 go_wp2_with fail
 refine (AB HEN).mono ?_
 rintro e w6 ⟨(⟨hen,rfl⟩|⟨nen,rfl⟩),hb6⟩
 case inr=>
  have hR6:=(AB HR4).below hb6 (by omega)
  have hbl6:=(AB HBL4).trans (hb6.mono (by omega))
  have c0:w6.cell? (pK w.heap.size 0)=some (.int .u64 0):=hR6.cell rfl
  have c1:w6.cell? (pK w.heap.size 1)=some (.slice none 0 0):=hR6.cell rfl
  have f0:=hR6.frozen 0
  have f1:=hR6.frozen 1
  obtain ⟨d0,d1,d2⟩:=Ij hR6 hbl6
  have D2:=AC d2
  have NEN:=AC nen
  clear d2 nen hR6 hbl6 hb6
  go_wp2
  exact bodyPost_ret (v:= .tuple #[Fl,.iface 47 (.int .i64 5)]) (by simp [results,Tryz.results71,go_sem,Fl,d0,d1]) rfl ⟨.inr (.inr ⟨AB HDR,by rw [Ii,<-AB HSC];exact AB AOK,ss,by rw [<-AB HSC];exact AB HPM,AB HST,.inr ⟨by rw [hssl];exact AB NOV,.inl ⟨by rw [<-AB HED];exact AB NEN,rfl⟩⟩⟩),AB D2⟩
 have hR6:=(AB HR4).below hb6 (by omega)
 have hbl6:=(AB HBL4).trans (hb6.mono (by omega))
 have hho6:=(AB HHO4).below hb6 hs4
 have HR6:=AC hR6
 have HBL6:=AC hbl6
 have HHO6:=AC hho6
 have HENT:=AC hen
 have hs6:=hho6.lt
 clear hR6 hbl6 hho6 hen hb6 HR4 HBL4 HHO4 HEN HNU
 have HFA:=AC (M5 (AB HB) (AB AOK) (AB HPM))
 obtain ⟨ip,hip,hzz⟩:=Option.map_eq_some_iff.1 KS
 simp only [Prod.mk.injEq] at hzz
 have HIP:=AC (And.intro hip hzz)
 clear hip hzz
 go_wp2
 go_loopw [48] (fun i wr=>∃k:Nat,k<=N/\i= .int .i64 k/\∃v:Value,AG wr w6.heap.size 199 [.int .u64 E,v]/\AG wr w.heap.size 199 [.int .u64 0,.slice none 0 0]/\AG wr w1.heap.size 270 (Be b off cap ss)/\
   wr.ownsRow (w6.heap.size+1) 166 258 v (BQ B (ss.take k)).length (BG (BQ B (ss.take k)))/\Below w.heap.size w wr/\w6.heap.size+1<=wr.heap.size) (fun i _=>N-(intOf i).toNat)
 case atStart=>
  refine ⟨0,by omega,rfl,.slice none 0 0,AG.new _ _ _,(AB HR6).alloc _,(AB HHO6).alloc _,World.ownsRow_nil _ _ _ _,(AB HBL6).alloc (by omega) _,by simp⟩
 case round=>
  obtain ⟨k,hk,rfl,v,hpl,hre,hse,how,hbl,hsz⟩:=hrel
  have HPL:=AC hpl
  have HRE:=AC hre
  have HSE:=AC hse
  have HOW:=AC how
  have HBL:=AC hbl
  by_cases hlt:k<N
  ·obtain ⟨s,hs⟩:∃s,s=ss.getD k Dw:=⟨_,rfl⟩
   have hsk:ss[k]? =some s:=by rw [hs,List.getD,zz (by omega)];rfl
   have hsf:EI B s:=(AB HFA) s (zv hsk)
   have c0:wr.cell? (pK w1.heap.size (k*5))=some (.int .u8 s.perm):=by rw [hs];exact Ds hse k (by omega) 0 _ (by omega) rfl
   have c1:wr.cell? (pK w1.heap.size (k*5+1))=some (.int .u64 s.addr):=by rw [hs];exact Ds hse k (by omega) 1 _ (by omega) rfl
   have c2:wr.cell? (pK w1.heap.size (k*5+2))=some (.slice (some (pK b (Gl off cap s))) s.inFile.toNat (cap-s.offs.toNat)):=by rw [hs];exact Ds hse k (by omega) 2 _ (by omega) rfl
   have c3:wr.cell? (pK w1.heap.size (k*5+3))=some (.int .i64 (s.addr/256)):=by rw [hs];exact Ds hse k (by omega) 3 _ (by omega) rfl
   have c4:wr.cell? (pK w1.heap.size (k*5+4))=some (.int .i64 ((s.addr+s.mem-1)/256)):=by rw [hs];exact Ds hse k (by omega) 4 _ (by omega) rfl
   have HPA:=AC (fun w'=>Xd b off cap B s w' hsf (AB HNum).1 (AB HNum).2)
   have hal:=(zw wr.heap.size wr).alloc (zx _) (.cells (Ay b off cap s).toArray 270)
   have hpl2:=hpl.alloc (.cells (Ay b off cap s).toArray 270)
   have p1:=hpl2.cell (j:=1) rfl
   have pf:=hpl2.frozen 1
   have hk0:(0:Int)<=(k:Int):=by omega
   have hk1:(k:Int)<(N:Int):=by omega
   have HSF:=AC hsf
   have HSK:=AC hsk
   unfold Hh at HPA
   unfold Ay at p1 pf
   generalize s.addr/256=F1 at c3 HPA p1 pf
   generalize (s.addr+s.mem-1)/256=L1 at c4 HPA p1 pf
   generalize s.addr=AA at c1 HPA p1 pf
   generalize Gl off cap s=SP at c2 HPA p1 pf
   generalize s.offs.toNat=OO at c2 HPA p1 pf
   generalize s.inFile.toNat=FF at c2 HPA p1 pf
   generalize s.perm=PP at c0 HPA p1 pf
   clear hpl hre hse how hbl hal hpl2 hsf hsk hs
   obtain ⟨W,hW⟩:∃W,W=wr.alloc (.cells #[.int .u8 PP,.int .u64 AA,.slice (some (pK b SP)) FF (cap-OO),.int .i64 F1,.int .i64 L1] 270):=⟨_,rfl⟩
   have HW:=AC hW
   have q5:=AG.new wr 270 [.int .u8 PP,.int .u64 AA,.slice (some (pK b SP)) FF (cap-OO),.int .i64 F1,.int .i64 L1]
   rw [<-hW] at q5 p1 pf
   have hWs:W.heap.size=wr.heap.size+1:=by rw [hW];simp
   have HWB:=AC (show Below wr.heap.size wr W from by rw [hW];exact (zw _ _).alloc (zx _) _)
   have q0:W.cell? (pK wr.heap.size 0)=some (.int .u8 PP):=q5.cell rfl
   have q1:W.cell? (pK wr.heap.size 1)=some (.int .u64 AA):=q5.cell rfl
   have q2:W.cell? (pK wr.heap.size 2)=some (.slice (some (pK b SP)) FF (cap-OO)):=q5.cell rfl
   have q3:W.cell? (pK wr.heap.size 3)=some (.int .i64 F1):=q5.cell rfl
   have q4:W.cell? (pK wr.heap.size 4)=some (.int .i64 L1):=q5.cell rfl
   obtain ⟨m,hm⟩:∃m,m=s.count:=⟨_,rfl⟩
   obtain ⟨news,hnews⟩:∃x,x=BG (Dk B s m):=⟨_,rfl⟩
   obtain ⟨G,hG⟩:∃G,G=W.heap.size+1:=⟨_,rfl⟩
   have HPB:Hid (Calls Tryz.prog 129 #[.agg #[.int .u8 PP,.int .u64 AA,.slice (some (pK b SP)) FF (cap-OO),.int .i64 F1,.int .i64 L1]] W.drew fun e w''=>e= .returned (.slice (some (pK G 0)) m m)/\Hid (AG w'' G 166 news)/\Hid (Below W.heap.size W w'')):=by
    have hbv:BC W.drew b off B:=fun j hj=>(((AB HV).below (AB HBL) hbw).below (AB HWB) (by have:=(AB HBL).size;omega)) j hj
    have hbb:b<W.drew.heap.size:=by show b<W.heap.size;rw [hWs];have:=(AB HBL).size;omega
    refine AC ((AB HPA W.drew hbv hbb).mono ?_)
    rintro e w'' ⟨he,h1,h2⟩
    rw [<-hm] at he h1
    exact ⟨by rw [hG];exact he,by rw [hnews,hG];exact h1,⟨h2.os,h2.tape,h2.output,h2.size,h2.block⟩⟩
   obtain ⟨M,hM⟩:∃M,M=(BQ B (ss.take k)).length:=⟨_,rfl⟩
   obtain ⟨xs,hxs⟩:∃xs,xs=BG (BQ B (ss.take k)):=⟨_,rfl⟩
   rw [<-hM,<-hxs] at HOW
   have HM:=AC (And.intro hm (And.intro hnews (And.intro hM hxs)))
   have hm1:=(G3 (AB HSF)).1
   have hm2:=(G3 (AB HSF)).2
   have hM8:M<=8*255:=by
    have:=Xf (ss:=ss.take k) (fun x hx=>(AB HFA) x (List.mem_of_mem_take hx))
    rw [<-hM] at this
    have h9:(ss.take k).length<=8:=by simp;omega
    omega
   rw [<-hm] at hm1 hm2
   have hnl:news.length=m*258:=by rw [hnews,Gp _ (Hr B s m),Dv]
   have hn1:∀u∈news,u.oneCell'=true:=by rw [hnews];exact M6 _
   have HNW:=AC (And.intro hnl hn1)
   have hpb:w6.heap.size<wr.heap.size:=by omega
   have KS7:Hid (∀w',Hid (Below W.heap.size W w')->w'.frozen? (pK w6.heap.size 1)=false/\w'.cell? (pK w6.heap.size 1)=some v/\w'.cell? (pK wr.heap.size 0)=some (.int .u8 PP)/\w'.cell? (pK wr.heap.size 1)=some (.int .u64 AA)/\w'.cell? (pK wr.heap.size 2)=some (.slice (some (pK b SP)) FF (cap-OO))/\w'.cell? (pK wr.heap.size 3)=some (.int .i64 F1)/\w'.cell? (pK wr.heap.size 4)=some (.int .i64 L1)):=
    AC (fun w' hb=>⟨by rw [(AB hb).frozen (p:=(pK w6.heap.size 1)) (by show w6.heap.size<_;omega)];exact pf,by rw [(AB hb).cell (p:=(pK w6.heap.size 1)) (by show w6.heap.size<_;omega)];exact p1,by rw [(AB hb).cell (p:=(pK wr.heap.size 0)) (by show wr.heap.size<_;omega)];exact q0,by rw [(AB hb).cell (p:=(pK wr.heap.size 1)) (by show wr.heap.size<_;omega)];exact q1,by rw [(AB hb).cell (p:=(pK wr.heap.size 2)) (by show wr.heap.size<_;omega)];exact q2,by rw [(AB hb).cell (p:=(pK wr.heap.size 3)) (by show wr.heap.size<_;omega)];exact q3,by rw [(AB hb).cell (p:=(pK wr.heap.size 4)) (by show wr.heap.size<_;omega)];exact q4⟩)
   have HOWW:=AC (show W.ownsRow (w6.heap.size+1) 166 258 v M xs from by rw [hW];exact (AB HOW).alloc _)
   have KS8:Hid (∀w7 w',Hid (Below W.heap.size W w7)->w7.grownBy w' v.ownBlock->w'.frozen? (pK w6.heap.size 1)=false/\w'.cell? (pK w6.heap.size 1)=some v/\w'.cell? (pK wr.heap.size 0)=some (.int .u8 PP)/\w'.cell? (pK wr.heap.size 1)=some (.int .u64 AA)/\w'.cell? (pK wr.heap.size 2)=some (.slice (some (pK b SP)) FF (cap-OO))/\w'.cell? (pK wr.heap.size 3)=some (.int .i64 F1)/\w'.cell? (pK wr.heap.size 4)=some (.int .i64 L1)):=by
    refine AC (fun w7 w' hb hg=> ?_)
    have h7:=(AB KS7) w7 hb
    have hs7:=(AB hb).size
    have n1:some w6.heap.size≠v.ownBlock:=fun h=>by have:=(AB HOW).lt _ h.symm;omega
    have n2:some wr.heap.size≠v.ownBlock:=fun h=>by have:=(AB HOW).lt _ h.symm;omega
    refine ⟨?_,?_,?_,?_,?_,?_,?_⟩
    ·rw [World.frozen?_of_block (a:=(pK w6.heap.size 1)) (hg.block w6.heap.size (by omega) n1)];exact h7.1
    ·rw [World.cell?_of_block (a:=(pK w6.heap.size 1)) (hg.block w6.heap.size (by omega) n1)];exact h7.2.1
    ·rw [World.cell?_of_block (a:=(pK wr.heap.size 0)) (hg.block wr.heap.size (by omega) n2)];exact h7.2.2.1
    ·rw [World.cell?_of_block (a:=(pK wr.heap.size 1)) (hg.block wr.heap.size (by omega) n2)];exact h7.2.2.2.1
    ·rw [World.cell?_of_block (a:=(pK wr.heap.size 2)) (hg.block wr.heap.size (by omega) n2)];exact h7.2.2.2.2.1
    ·rw [World.cell?_of_block (a:=(pK wr.heap.size 3)) (hg.block wr.heap.size (by omega) n2)];exact h7.2.2.2.2.2.1
    ·rw [World.cell?_of_block (a:=(pK wr.heap.size 4)) (hg.block wr.heap.size (by omega) n2)];exact h7.2.2.2.2.2.2
   have HWS:=AC hWs
   have HG:=AC hG
   clear hG
   clear hW hm hnews hM hxs hnl hn1 HPA hWs
   go_wp2
   rw [<-AB HW]
   clear c0 c1 c2 c3 c4
   go_region_law (first|(refine Uc (by rfl) 129 54 270 (by rfl) _ (by rfl) Ud _ _ (AB HPB) ?_;rintro w7 ⟨hn7,hb7⟩;obtain ⟨z0,z1,z2,z3,z4,z5,z6⟩:=AB KS7 _ hb7)|(refine step_append_lies _ (by rfl) _ _ 160 (by rfl) (w6.heap.size+1) 166 ip _ 258 272 Tryz.underlying160 (AB HIP).1 (AB HIP).2.1 (AB HIP).2.2.1 (AB HIP).2.2.2 (by show C7.toArray.size=258;simp [EH]) (by decide) v M xs (by rfl) (BO (AB HOWW) hb7) (pK G 0) m m news (by rfl) (AB HNW).1 (GH hn7) (AB HNW).2 (by omega) (by unfold maxLen;omega) (by omega) (by have:=(AB hb7).size;have:=AB HWS;omega) w7.heap.size (by rfl) ?_;intro g gc w8 hown8 hgrow8 hat8 hlt8;obtain ⟨x0,x1,x2,x3,x4,x5,x6⟩:=AB KS8 _ _ hb7 hgrow8))
   all_goals
    have hown9:(w8.setCell (pK w6.heap.size 1) (.slice (some (pK g 0)) (M+m) gc)).ownsRow (w6.heap.size+1) 166 258 (.slice (some (pK g 0)) (M+m) gc) (BQ B (ss.take (k+1))).length (BG (BQ B (ss.take (k+1)))):=by
     have hal:=Lh B ss k s (AB HSK)
     obtain ⟨hm,hnews,hM,hxs⟩:=AB HM
     rw [hal,Gq,zn,Dv,<-hm,<-hM,<-hxs,<-hnews]
     exact hown8.kept (AS (w:=w8) (wr:=w8) (b:=w6.heap.size) ⟨rfl,rfl,rfl,zx _,fun _ _ _=>rfl⟩ 1 _) (.inr (fun h=>by have:=hown8.lt _ h;omega))
    have hs7:=(AB hb7).size
    have hws:=AB HWS
    have hgs:=hgrow8.size
    have n0:some w.heap.size≠v.ownBlock:=fun h=>by have:=(AB HOW).lt _ h.symm;omega
    have n1:some w6.heap.size≠v.ownBlock:=fun h=>by have:=(AB HOW).lt _ h.symm;omega
    have n2:some w1.heap.size≠v.ownBlock:=fun h=>by have:=(AB HOW).lt _ h.symm;omega
    have a1:=(((((AB HPL).below (AB HWB) (by omega)).below (AB hb7) (by omega)).grown hgrow8 n1).set 1 (.slice (some (pK g 0)) (M+m) gc))
    have a2:=((((AB HRE).below (AB HWB) (by omega)).below (AB hb7) (by omega)).grown hgrow8 n0).set_other (c:=w6.heap.size) (by omega) 1 (.slice (some (pK g 0)) (M+m) gc)
    have a3:=((((AB HSE).below (AB HWB) (by omega)).below (AB hb7) (by omega)).grown hgrow8 n2).set_other (c:=w6.heap.size) (by omega) 1 (.slice (some (pK g 0)) (M+m) gc)
    have hbw8:Below w.heap.size w w8:=(((AB HBL).trans ((AB HWB).mono (by omega))).trans ((AB hb7).mono (by omega))).trans ⟨hgrow8.os,hgrow8.tape,hgrow8.output,hgrow8.size,fun q hq=>hgrow8.block q (by omega) (fun h=>by have:=(AB HOW).lt _ h.symm;omega)⟩
    have a4:=hbw8.setCell (p:=(pK w6.heap.size 1)) (by show w.heap.size<=w6.heap.size;omega) (.slice (some (pK g 0)) (M+m) gc)
    have A0:=AC hown9
    have A1:=AC a1
    have A2:=AC a2
    have A3:=AC a3
    have A4:=AC a4
    have A5:w6.heap.size+1<=(w8.setCell (pK w6.heap.size 1) (.slice (some (pK g 0)) (M+m) gc)).heap.size:=by simp [World.setCell];omega
    clear hown9 a1 a2 a3 a4 hbw8
    go_wp2
    go_roundw
    case rel=>exact ⟨k+1,by omega,by go_num,_,AB A1,AB A2,AB A3,AB A0,AB A4,A5⟩
    case measure=>simp [intOf];omega
  ·have hkn:k=N:=by omega
   subst hkn
   have htk:ss.take k=ss:=yh (by omega)
   rw [htk] at HOW
   have hpos:0<(BQ B ss).length:=by
    obtain ⟨s0,hs0⟩:∃s0,ss[0]? =some s0:=⟨_,zz (by omega)⟩
    have h1:=Lh B ss 0 s0 hs0
    have h2:=(G3 ((AB HFA) s0 (zv hs0))).1
    have h3:BQ B ss=BQ B (ss.take 1)++BQ B (ss.drop 1):=by rw [BQ,BQ,BQ,<-List.flatMap_append,List.take_append_drop]
    rw [h3,h1,zn,zn,Dv];omega
   obtain ⟨g,gc,rfl,hg1,hg2⟩:=(AB HOW).form hpos
   have d0:=(AB HPL).cell (j:=0) rfl
   have d1:=(AB HPL).cell (j:=1) rfl
   have r0:=(AB HRE).cell (j:=0) rfl
   have r1:=(AB HRE).cell (j:=1) rfl
   have f0:=(AB HRE).frozen 0
   have f1:=(AB HRE).frozen 1
   have u2:=((AB HRE).set 0 (.int .u64 E)).set 1 (.slice (some (pK g 0)) (BQ B ss).length gc)
   have u0:=u2.cell (j:=0) rfl
   have u1:=u2.cell (j:=1) rfl
   have u3:=((AB HBL).setCell (p:=(pK w.heap.size 0)) (zx _) (.int .u64 E)).setCell (p:=(pK w.heap.size 1)) (zx _) (.slice (some (pK g 0)) (BQ B ss).length gc)
   have u4:=(AB HOW).kept (AS (AS (w:=wr) (wr:=wr) (b:=w.heap.size) ⟨rfl,rfl,rfl,zx _,fun _ _ _=>rfl⟩ 0 (.int .u64 E)) 1 (.slice (some (pK g 0)) (BQ B ss).length gc)) (.inr (fun h=>by simp [Value.ownBlock] at h;omega))
   have U3:=AC u3
   have U4:=AC (EJ (base':=w.heap.size) u4 (by omega))
   clear hpl hre hse how hbl u2 u3 u4
   go_wp2
   exact bodyPost_ret (v:= .tuple #[.agg #[.int .u64 E,.slice (some (pK g 0)) (BQ B ss).length gc],.nilIface]) (by simp [results,Tryz.results71,go_sem,u0,u1]) rfl ⟨.inr (.inr ⟨AB HDR,by rw [Ii,<-AB HSC];exact AB AOK,ss,by rw [<-AB HSC];exact AB HPM,AB HST,.inr ⟨by rw [hssl];exact AB NOV,.inr ⟨by rw [<-AB HED];exact AB HENT,g,gc,by rw [<-AB HED],AB U4⟩⟩⟩),AB U3⟩
def cov (s:Seg) (p:Nat):Bool:=decide (s.first<=(p:Int)/\(p:Int)<=s.last)
theorem Ex {s:Seg} {p:Nat}:cov s p=true↔s.first<=(p:Int)/\(p:Int)<=s.last:=by simp [cov]
theorem Xg {s:Seg} {p:Nat}:cov s p=false↔¬(s.first<=(p:Int)/\(p:Int)<=s.last):=by simp [cov]
theorem Ej {B:List Int} {s:Seg} (h:EI B s):s.first=((s.addr.toNat/256:Nat):Int)/\s.last=((s.addr.toNat/256+s.count:Nat):Int)-1/\s.addr.toNat/256+s.count<=254/\1<=s.count:=by
 have hc:=G3 h
 obtain ⟨a0,o0,i0,m1,hfm,hfit,htop⟩:=h
 unfold Seg.count Seg.last Seg.first at*
 omega
theorem Ik {B:List Int} {ss:List Seg} (hf:∀s∈ss,EI B s) (hno:∀i,i+1<ss.length->¬Kz ss i):∀j i,i<j->j<ss.length->(ss.getD i Dw).last<(ss.getD j Dw).first
 |0,i,h,_=>by omega
 |j+1,i,h,hj=>by
  have h1:(ss.getD j Dw).last<(ss.getD (j+1) Dw).first:=by have:=hno j hj;unfold Kz at this;omega
  rcases Nat.lt_succ_iff_lt_or_eq.1 h with h2|h2
  ·have h3:=Ik hf hno j i h2 (by omega)
   have hm:ss.getD j Dw∈ss:=by rw [List.getD,zz (by omega)];exact List.getElem_mem _
   have h4:=Ej (hf _ hm)
   omega
  ·rw [h2];exact h1
theorem IP {ss:List Seg} (h:∀j i,i<j->j<ss.length->(ss.getD i Dw).last<(ss.getD j Dw).first):ss.Pairwise (fun s t=>s.last<t.first):=by
 rw [List.pairwise_iff_getElem]
 intro i j hi hj hij
 have:=h j i hij hj
 simpa [List.getD,zz hi,zz hj] using this
theorem Jq {α β:Type} {l:List α} {f g:α->List β} (h:∀a∈l,f a=g a):l.flatMap f=l.flatMap g:=by
 induction l with
 |nil=>rfl
 |cons a r ih=>rw [List.flatMap_cons,List.flatMap_cons,h a yr,ih (fun x hx=>h x (List.mem_cons_of_mem _ hx))]
theorem Ze {α β:Type} (l:List α) (f:α->β):(l.flatMap fun a=>[f a])=l.map f:=by
 induction l with
 |nil=>rfl
 |cons a r ih=>rw [List.flatMap_cons,ih];rfl
theorem Li (B:List Int):∀(ss:List Seg) (lo:Nat),(∀s∈ss,EI B s)->ss.Pairwise (fun s t=>s.last<t.first)->(∀s∈ss,(lo:Int)<=s.first)->lo<=256->
  (List.range' lo (256-lo)).flatMap (fun p=>(ss.filter (fun s=>cov s p)).map (fun s=>(⟨(p:Nat),s.perm,CP B s p⟩:Pg)))=BQ B ss
 |[],lo,_,_,_,_=>by simp [BQ]
 |s::r,lo,hf,hp,hlo,h256=>by
  obtain ⟨e1,e2,e3,e4⟩:=Ej (hf s yr)
  have hlo1:=hlo s yr
  rw [List.pairwise_cons] at hp
  have ih:=Li B r (s.addr.toNat/256+s.count) (fun t ht=>hf t (List.mem_cons_of_mem _ ht)) hp.2 (fun t ht=>by have:=hp.1 t ht;omega) (by omega)
  have eall:BQ B (s::r)=Dk B s s.count++BQ B r:=by simp [BQ]
  unfold Dk at eall
  generalize s.addr.toNat/256=f at*
  generalize s.count=n at*
  have hs1:List.range' lo (256-lo)=List.range' lo (f-lo)++(List.range' f n++List.range' (f+n) (256-(f+n))):=by
   have a:=List.range'_append_1 (s:=f) (m:=n) (n:=256-(f+n))
   have b:=List.range'_append_1 (s:=lo) (m:=f-lo) (n:=n+(256-(f+n)))
   rw [show lo+(f-lo)=f from by omega] at b
   rw [a,b]
   congr 1;omega
  rw [hs1,List.flatMap_append,List.flatMap_append,eall]
  have p1:(List.range' lo (f-lo)).flatMap (fun p=>((s::r).filter (fun s=>cov s p)).map (fun s=>(⟨(p:Nat),s.perm,CP B s p⟩:Pg)))=[]:=by
   rw [List.flatMap_eq_nil_iff]
   intro p hp2
   rw [List.mem_range'_1] at hp2
   rw [List.map_eq_nil_iff,List.filter_eq_nil_iff]
   intro t ht
   rw [Ex]
   rcases List.mem_cons.1 ht with rfl|ht
   ·omega
   ·have:=hp.1 t ht;omega
  have p2:(List.range' f n).flatMap (fun p=>((s::r).filter (fun s=>cov s p)).map (fun s=>(⟨(p:Nat),s.perm,CP B s p⟩:Pg)))=(List.range n).map fun i=>⟨(f+i:Nat),s.perm,CP B s (f+i)⟩:=by
   rw [List.range'_eq_map_range,List.flatMap_map]
   have:∀i∈List.range n,(((s::r).filter (fun s=>cov s (f+i))).map (fun s=>(⟨((f+i:Nat):Int),s.perm,CP B s (f+i)⟩:Pg)))=[⟨((f+i:Nat):Int),s.perm,CP B s (f+i)⟩]:=by
    intro i hi
    rw [zg] at hi
    have c1:cov s (f+i)=true:=by rw [Ex];omega
    have c2:r.filter (fun s=>cov s (f+i))=[]:=by
     rw [List.filter_eq_nil_iff]
     intro t ht
     rw [Ex]
     have:=hp.1 t ht;omega
    rw [List.filter_cons,if_pos c1,c2];rfl
   rw [Jq this,Ze]
  have p3:(List.range' (f+n) (256-(f+n))).flatMap (fun p=>((s::r).filter (fun s=>cov s p)).map (fun s=>(⟨(p:Nat),s.perm,CP B s p⟩:Pg)))=BQ B r:=by
   rw [<-ih]
   refine Jq ?_
   intro p hp2
   rw [List.mem_range'_1] at hp2
   have c1:cov s p=false:=by rw [Xg];omega
   rw [List.filter_cons,if_neg (by rw [c1];simp)]
  rw [p1,p2,p3,yc]
theorem eZ {B:List Int} {ss:List Seg} (hf:∀s∈ss,EI B s) (hs:Ub ss) {i:Nat} (hi:i+1<ss.length) (ho:Kz ss i):∃p,p<256/\1<ss.countP (fun s=>cov s p):=by
 have m0:ss[i]? =some (ss.getD i Dw):=by rw [List.getD,zz (by omega)];rfl
 have m1:ss[i+1]? =some (ss.getD (i+1) Dw):=by rw [List.getD,zz hi];rfl
 have f0:=Ej (hf _ (zv m0))
 have f1:=Ej (hf _ (zv m1))
 have h2:=hs i (i+1) (by omega) hi
 have h3:(ss.getD i Dw).first<=(ss.getD (i+1) Dw).first:=by unfold Seg.first;omega
 unfold Kz at ho
 generalize ss.getD i Dw=a at*
 generalize ss.getD (i+1) Dw=b at*
 have c0:cov a (b.addr.toNat/256)=true:=by rw [Ex];omega
 have c1:cov b (b.addr.toNat/256)=true:=by rw [Ex];omega
 refine ⟨b.addr.toNat/256,by omega,?_⟩
 have e:ss=ss.take i++(a::b::ss.drop (i+2)):=by
  have h4:ss.drop i=a::ss.drop (i+1):=by rw [List.drop_eq_getElem_cons (by omega)];congr 1;rw [zz (by omega)] at m0;exact zr m0
  have h5:ss.drop (i+1)=b::ss.drop (i+2):=by rw [List.drop_eq_getElem_cons hi];congr 1;rw [zz hi] at m1;exact zr m1
  rw [<-h5,<-h4,List.take_append_drop]
 rw [e,List.countP_append,List.countP_cons,List.countP_cons,if_pos c0,if_pos c1]
 omega
theorem M7 {B:List Int}:∀{ss:List Seg},(∀s∈ss,EI B s)->ss.Pairwise (fun s t=>s.last<t.first)->∀p,ss.countP (fun s=>cov s p)<=1
 |[],_,_,p=>by simp
 |s::r,hf,hp,p=>by
  rw [List.pairwise_cons] at hp
  have ih:=M7 (fun t ht=>hf t (List.mem_cons_of_mem _ ht)) hp.2 p
  rw [List.countP_cons]
  by_cases c:cov s p=true
  ·have h0:r.countP (fun s=>cov s p)=0:=by
    rw [List.countP_eq_zero]
    intro t ht
    rw [Ex] at c ⊢
    have:=hp.1 t ht
    omega
   rw [h0];split<;>omega
  ·rw [if_neg c];omega
theorem WQ (P:Int) (h1:1<=P) (h7:P<=7):bits BinOp.and IntKind.u8 P 1≠0↔bits BinOp.and IntKind.i64 P 1=1:=by
 have h:P=1\/P=2\/P=3\/P=4\/P=5\/P=6\/P=7:=by omega
 rcases h with rfl|rfl|rfl|rfl|rfl|rfl|rfl<;>decide
theorem M8 {B:List Int} {ss:List Seg} {q:Pg}:q∈BQ B ss↔∃s∈ss,∃i,i<s.count/\q=⟨((s.addr.toNat/256+i:Nat):Int),s.perm,CP B s (s.addr.toNat/256+i)⟩:=by
 unfold BQ Dk
 constructor
 ·intro h
  obtain ⟨s,hs,h⟩:=List.mem_flatMap.1 h
  obtain ⟨i,hi,rfl⟩:=yw.1 h
  exact ⟨s,hs,i,zg.1 hi,rfl⟩
 ·rintro ⟨s,hs,i,hi,rfl⟩
  exact List.mem_flatMap.2 ⟨s,hs,yw.2 ⟨i,zg.2 hi,rfl⟩⟩
theorem Ue {B:List Int} {ss:List Seg} (hf:∀s∈ss,EI B s) (hp:∀s∈ss,1<=s.perm/\s.perm<=7) (E:Int) (h0:0<=E):
  Pa E ss↔E%4=0/\E<65536/\∃q∈BQ B ss,q.num=E/256/\bits BinOp.and IntKind.i64 q.perm 1=1:=by
 constructor
 ·rintro ⟨h1,h2,i,hi,h3,h4,h5⟩
  have hm:ss.getD i Dw∈ss:=by rw [List.getD,zz hi];exact List.getElem_mem _
  generalize ss.getD i Dw=s at*
  obtain ⟨e1,e2,e3,e4⟩:=Ej (hf s hm)
  refine ⟨h1,by omega,_,M8.2 ⟨s,hm,(E/256).toNat-s.addr.toNat/256,by omega,rfl⟩,?_,(WQ _ (hp s hm).1 (hp s hm).2).1 h3⟩
  show ((s.addr.toNat/256+((E/256).toNat-s.addr.toNat/256):Nat):Int)=E/256
  omega
 ·rintro ⟨h1,h2,q,hq,h3,h4⟩
  obtain ⟨s,hs,i,hi,rfl⟩:=M8.1 hq
  obtain ⟨e1,e2,e3,e4⟩:=Ej (hf s hs)
  simp only at h3 h4
  obtain ⟨j,hj,rfl⟩:=List.mem_iff_getElem.1 hs
  refine ⟨h1,by omega,j,hj,?_⟩
  have e:ss.getD j Dw=ss[j]:=by rw [List.getD,zz hj];rfl
  rw [e]
  exact ⟨(WQ _ (hp _ hs).1 (hp _ hs).2).2 h4,by omega,by omega⟩
theorem Pc {B:List Int} {n:Nat} (h:∀i,i<n->Ff B (64+56*i)) {ss:List Seg} (hp:ss.Perm (BP B n)):∀s∈ss,1<=s.perm/\s.perm<=7:=by
 intro s hs
 have:=hp.mem_iff.1 hs
 obtain ⟨i,hi,rfl⟩:=yw.1 this
 have hk:=h i (by simpa using hi)
 exact ⟨hk.2.1.1,hk.2.1.2.1⟩
abbrev JZ (s:Seg) (p t:Nat):Prop:=s.addr.toNat<=p*256+t/\p*256+t-s.addr.toNat<s.inFile.toNat
def Ek (B:List Int) (s:Seg) (p:Nat) (L:List Int) (j:Nat):List Int:=
 (List.range 256).map fun t=>if t<j/\JZ s p t then B.getD (s.offs.toNat+(p*256+t-s.addr.toNat)) 0 else L.getD t 0
theorem Dl (B:List Int) (s:Seg) (p:Nat) (L:List Int) (j:Nat):(Ek B s p L j).length=256:=by simp [Ek]
theorem Uf (B:List Int) (s:Seg) (p:Nat) (L:List Int) (h:L.length=256):Ek B s p L 0=L:=by
 apply List.ext_getElem?
 intro j
 by_cases hj:j<256
 ·rw [Ek,ze,xx hj]
  simp [List.getD,zz (show j<L.length by omega)]
 ·rw [yz (by rw [Dl];omega),yz (by omega)]
theorem Ug (B:List Int) (s:Seg) (p:Nat):Ek B s p Aq 256=CP B s p:=by
 apply List.ext_getElem?
 intro j
 by_cases hj:j<256
 ·rw [Ek,CP,ze,ze,xx hj]
  have hz:Aq.getD j 0=0:=by rw [List.getD,Lg,if_pos hj];rfl
  simp only [Option.map_some]
  rw [hz]
  unfold Hq JZ
  by_cases h:s.addr.toNat<=p*256+j/\p*256+j-s.addr.toNat<s.inFile.toNat
  ·rw [if_pos ⟨hj,h⟩,if_pos h]
  ·rw [if_neg (fun x=>h x.2),if_neg h]
 ·rw [yz (by rw [Dl];omega),yz (by rw [GG];omega)]
theorem Zf {B:List Int} {s:Seg} {p:Nat} {L:List Int} {j:Nat} (h:JZ s p j) (hj:j<256):(Ek B s p L j).set j (B.getD (s.offs.toNat+(p*256+j-s.addr.toNat)) 0)=Ek B s p L (j+1):=by
 apply List.ext_getElem?
 intro t
 rw [yy,Dl]
 by_cases ht:t<256
 ·by_cases e:j=t
  ·subst e
   rw [if_pos rfl,if_pos hj,Ek,ze,xx hj,Option.map_some,if_pos ⟨by omega,h⟩]
  ·rw [if_neg e,Ek,Ek,ze,ze,xx ht,Option.map_some,Option.map_some]
   congr 1
   by_cases h2:t<j/\JZ s p t
   ·rw [if_pos h2,if_pos ⟨by omega,h2.2⟩]
   ·rw [if_neg h2,if_neg (fun x=>h2 ⟨by omega,x.2⟩)]
 ·rw [if_neg (by omega),yz (by rw [Dl];omega),yz (by rw [Dl];omega)]
theorem Pd {B:List Int} {s:Seg} {p:Nat} {L:List Int} {j:Nat} (h:¬JZ s p j):Ek B s p L j=Ek B s p L (j+1):=by
 unfold Ek
 refine List.map_congr_left ?_
 intro t _
 by_cases h2:t<j/\JZ s p t
 ·rw [if_pos h2,if_pos ⟨by omega,h2.2⟩]
 ·rw [if_neg h2,if_neg]
  rintro ⟨x,y⟩
  rcases Nat.lt_succ_iff_lt_or_eq.1 x with x|x
  ·exact h2 ⟨x,y⟩
  ·subst x;exact h y
def Bb (B:List Int) (ss:List Seg) (n:Nat):List Pg:=(List.range n).flatMap fun p=>(ss.filter (fun s=>cov s p)).map (fun s=>(⟨(p:Nat),s.perm,CP B s p⟩:Pg))
def Cd (PS:List Pg):List Value:=PS.flatMap fun p=>Aj p.num p.perm p.bytes
theorem GY (B:List Int) (ss:List Seg) (n:Nat):Bb B ss (n+1)=Bb B ss n++(ss.filter (fun s=>cov s n)).map (fun s=>(⟨(n:Nat),s.perm,CP B s n⟩:Pg)):=by
 unfold Bb
 rw [List.range_succ,List.flatMap_append];simp
theorem KT (B:List Int) (ss:List Seg) (n:Nat):∀q∈Bb B ss n,q.bytes.length=256:=by
 intro q hq
 obtain ⟨p,_,hq⟩:=List.mem_flatMap.1 hq
 obtain ⟨s,_,rfl⟩:=yw.1 hq
 exact GG _ _ _
theorem Og (a b:List Pg):Cd (a++b)=Cd a++Cd b:=by simp [Cd]
theorem Uh (q:Pg):Cd [q]=Aj q.num q.perm q.bytes:=by simp [Cd]
def Ht (B:List Int) (ss:List Seg) (p:Nat) (perm:Int) (L:List Int):Prop:=
 L.length=256/\(ss.filter (fun s=>cov s p)=[]->perm=0/\L=Aq)/\(∀s,ss.filter (fun s=>cov s p)=[s]->perm=s.perm/\L=CP B s p)
theorem SV (B:List Int) (p:Nat):Ht B [] p 0 Aq:=⟨Ak,fun _=>⟨rfl,rfl⟩,fun s h=>by simp at h⟩
theorem Lj {B:List Int} {ss:List Seg} {p:Nat} {perm:Int} {L:List Int} {s:Seg} (h:Ht B ss p perm L) (hc:cov s p=false):Ht B (ss++[s]) p perm L:=by
 have e:(ss++[s]).filter (fun s=>cov s p)=ss.filter (fun s=>cov s p):=by simp [List.filter_append,hc]
 unfold Ht
 rw [e];exact h
theorem Ui {B:List Int} {ss:List Seg} {p:Nat} {perm:Int} {L:List Int} {s:Seg} (h:Ht B ss p perm L) (hc:cov s p=true):Ht B (ss++[s]) p s.perm (Ek B s p L 256):=by
 have e:(ss++[s]).filter (fun s=>cov s p)=ss.filter (fun s=>cov s p)++[s]:=by simp [List.filter_append,hc]
 refine ⟨Dl _ _ _ _ _,fun h2=>by rw [e] at h2;simp at h2,fun t ht=> ?_⟩
 rw [e] at ht
 have e2:ss.filter (fun s=>cov s p)=[]:=by
  cases hx:ss.filter (fun s=>cov s p) with
  |nil=>rfl
  |cons a r=>rw [hx] at ht;simp at ht
 rw [e2] at ht
 have:s=t:=by simpa using ht
 subst this
 rw [(h.2.1 e2).2]
 exact ⟨rfl,Ug _ _ _⟩
theorem Il (ss:List Seg) (s:Seg) (p:Nat):(ss++[s]).countP (fun s=>cov s p)=ss.countP (fun s=>cov s p)+(if cov s p=true then 1 else 0):=by simp [List.countP_append,List.countP_cons]
theorem SW {ss:List Seg} {p:Nat} (h:ss.countP (fun s=>cov s p)=0):ss.filter (fun s=>cov s p)=[]:=by
 rw [List.countP_eq_length_filter] at h
 exact List.eq_nil_of_length_eq_zero h
theorem Uj {ss:List Seg} {p:Nat} (h:ss.countP (fun s=>cov s p)=1):∃s,ss.filter (fun s=>cov s p)=[s]:=by
 rw [List.countP_eq_length_filter] at h
 exact List.length_eq_one_iff.1 h
theorem Uk {B:List Int} {ss fs:List Seg} (hp:ss.Perm fs) (hf:∀s∈ss,EI B s) (hno:∀i,i+1<ss.length->¬Kz ss i):Bb B fs 256=BQ B ss:=by
 have hst:=IP (Ik hf hno)
 rw [<-Li B ss 0 hf hst (fun s hs=>by have:=Ej (hf s hs);omega) (by omega)]
 unfold Bb
 rw [List.range_eq_range']
 refine Jq ?_
 intro p _
 have h1:=M7 hf hst p
 have h2:(ss.filter (fun s=>cov s p)).Perm (fs.filter (fun s=>cov s p)):=hp.filter _
 rw [List.countP_eq_length_filter] at h1
 have h3:fs.filter (fun s=>cov s p)=ss.filter (fun s=>cov s p):=by
  cases hx:ss.filter (fun s=>cov s p) with
  |nil=>rw [hx] at h2;exact h2.nil_eq.symm
  |cons a r=>
   rw [hx] at h1 h2
   have hr:r=[]:=by simpa using h1
   subst hr
   exact List.perm_singleton.1 h2.symm
 rw [h3]
theorem cY {B:List Int} {ss fs:List Seg} (hp:ss.Perm fs) (hf:∀s∈ss,EI B s) (hs:Ub ss):
  (∃i,i+1<ss.length/\Kz ss i)↔∃p,p<256/\1<fs.countP (fun s=>cov s p):=by
 constructor
 ·rintro ⟨i,hi,ho⟩
  obtain ⟨p,h1,h2⟩:=eZ hf hs hi ho
  exact ⟨p,h1,by rw [<-hp.countP_eq];exact h2⟩
 ·rintro ⟨p,h1,h2⟩
  apply Classical.byContradiction
  intro hn
  have hno:∀i,i+1<ss.length->¬Kz ss i:=fun i hi ho=>hn ⟨i,hi,ho⟩
  have:=M7 hf (IP (Ik hf hno)) p
  rw [hp.countP_eq] at this
  omega
def K1 (c:Int):Ending:= .returned (.tuple #[.slice none 0 0,.int .u64 0,.int .i64 c])
def BS (s:Seg):List Value:=[.int .i64 s.perm,.int .u64 s.offs,.int .u64 s.addr,.int .u64 s.inFile,.int .u64 s.mem]
def DO (ss:List Seg):List Value:=ss.flatMap BS
theorem Um:(Tryz.prog.info? 287).map (fun i=>(i.zero,i.size,i.bytes))=some (some (.agg #[.int .i64 0,.int .u64 0,.int .u64 0,.int .u64 0,.int .u64 0]),5,40):=by kernel_rfl
def BZ (B:List Int):List Seg:=BP B (Bq B)
def M9 (E:Int) (PS:List Pg):Prop:=E%4=0/\E<65536/\∃q∈PS,q.num=E/256/\bits BinOp.and IntKind.i64 q.perm 1=1
def GZ (B:List Int) (w:World) (e:Ending) (w':World):Prop:=
 (¬B5 B/\e=K1 2\/B5 B/\¬Ii B/\e=K1 3\/B5 B/\Ii B/\
  ((∃p,p<256/\1<(BZ B).countP (fun s=>cov s p))/\e=K1 4\/
   (∀p,p<256->(BZ B).countP (fun s=>cov s p)<=1)/\(¬M9 (AW B 24 8) (Bb B (BZ B) 256)/\e=K1 5\/
    M9 (AW B 24 8) (Bb B (BZ B) 256)/\∃g gc,e= .returned (.tuple #[.slice (some (pK g 0)) (Bb B (BZ B) 256).length gc,.int .u64 (AW B 24 8),.int .i64 0])/\
     w'.ownsRow w.heap.size 138 258 (.slice (some (pK g 0)) (Bb B (BZ B) 256).length gc) (Bb B (BZ B) 256).length (Cd (Bb B (BZ B) 256)))))/\Below w.heap.size w w'
theorem Oh (B:List Int) (k:Nat):BP B (k+1)=BP B k++[Dc B (64+56*k)]:=by simp [BP,List.range_succ]
theorem ML (B:List Int) (k:Nat):DO (BP B (k+1))=DO (BP B k)++BS (Dc B (64+56*k)):=by
 rw [Oh,DO,DO,List.flatMap_append];simp
theorem Un (n:Int) (w:World):(Instr.build 138 #[(0,.int .i64 n)]).run Tryz.prog w= .ok (.agg (Aj n 0 Aq).toArray) w:=by kernel_rfl
theorem NC (x:Int) (h0:0<=x) (h1:x<1000000):wrap64 (IntKind.u64.wrap x)=x:=by
 rw [show IntKind.u64.wrap x=x from by rw [ym];omega]
 unfold wrap64;omega
theorem SX (a b:Int) (L:List Int) (m:Nat) (h:m<L.length):(Aj a b L)[2+m]? =some (.int .u8 (L.getD m 0)):=by
 rw [show 2+m=m+2 from by omega];exact AT L m h
theorem SY (a b:Int) (L:List Int) (m:Nat) (x:Int):(Aj a b L).set (2+m) (.int .u8 x)=Aj a b (L.set m x):=by
 rw [show 2+m=m+2 from by omega]
 show .int .i64 a:: .int .i64 b::(AJ L).set m (.int .u8 x)=_
 rw [Co];rfl
theorem Lk:∀(fs:List Seg) (j i:Nat) (s:Seg) (v:Value),fs[j]? =some s->i<5->(BS s)[i]? =some v->(DO fs)[j*5+i]? =some v
 |[],j,i,s,v,h,_,_=>by simp at h
 |a::r,0,i,s,v,h,hi,hv=>by
  have e:a=s:=by simpa using h
  subst e
  rw [DO,List.flatMap_cons,zp (by simp [BS];omega),Nat.zero_mul,zq];exact hv
 |a::r,j+1,i,s,v,h,hi,hv=>by
  have ih:=Lk r j i s v (by simpa using h) hi hv
  rw [DO,List.flatMap_cons,zo (by simp [BS];omega)]
  rw [DO] at ih
  rw [<-ih]
  congr 1
  simp [BS];omega
theorem Uo {B:List Int} {fs:List Seg} (h0:0<fs.length) (hf:∀s∈fs,EI B s):0<(Bb B fs 256).length:=by
 obtain ⟨s,hs⟩:∃s,s∈fs:=⟨fs[0],List.getElem_mem _⟩
 obtain ⟨e1,e2,e3,e4⟩:=Ej (hf s hs)
 have hc:cov s (s.addr.toNat/256)=true:=by rw [Ex];omega
 refine List.length_pos_of_mem (a:=⟨((s.addr.toNat/256:Nat):Int),s.perm,CP B s (s.addr.toNat/256)⟩) ?_
 unfold Bb
 refine List.mem_flatMap.2 ⟨s.addr.toNat/256,zg.2 (by omega),yw.2 ⟨s,List.mem_filter.2 ⟨hs,hc⟩,rfl⟩⟩
theorem Hu:∀(PS:List Pg) (j i:Nat) (q:Pg),(∀p∈PS,p.bytes.length=256)->PS[j]? =some q->i<258->∀v,(Aj q.num q.perm q.bytes)[i]? =some v->(Cd PS)[j*258+i]? =some v
 |[],j,i,q,_,h,_,v,_=>by simp at h
 |a::r,0,i,q,hb,h,hi,v,hv=>by
  have e:a=q:=by simpa using h
  subst e
  rw [Cd,List.flatMap_cons,zp (by rw [Ai,hb _ yr];omega),Nat.zero_mul,zq];exact hv
 |a::r,j+1,i,q,hb,h,hi,v,hv=>by
  have ih:=Hu r j i q (fun p hp=>hb p (List.mem_cons_of_mem _ hp)) (by simpa using h) hi v hv
  have hl:=hb a yr
  have e:(j+1)*258+i-(256+2)=j*258+i:=by omega
  have e2:Cd (a::r)=Aj a.num a.perm a.bytes++Cd r:=by rw [Cd,List.flatMap_cons];rfl
  rw [e2,zo (by rw [Ai,hl];omega),Ai,hl,e]
  exact ih
theorem GI {B:List Int} {ss:List Seg}:∀{p:Nat},(∀q,q<p->ss.countP (fun s=>cov s q)<=1)->(Bb B ss p).length<=p
 |0,_=>by simp [Bb]
 |p+1,h=>by
  have h1:=GI (B:=B) (p:=p) (fun q hq=>h q (by omega))
  have h2:=h p (by omega)
  rw [List.countP_eq_length_filter] at h2
  rw [GY,zn,zc];omega
theorem Zg (b off cap:Nat) (B:List Int) (w:World) (hB:AY B) (hcap:B.length<=cap) (hlen:B.length<=500000) (hv:BC w b off B) (hbw:b<w.heap.size):
  Calls Tryz.prog 84 #[.slice (some (pK b off)) B.length cap] w fun e w'=>GZ B w e w':=by
 have HH:=AC (Of b off cap B w hB hcap (by omega) hv)
 have HB:=AC hB
 have HV:=AC hv
 have HNum:=AC (And.intro hcap hlen)
 clear hB hv hcap hlen
 go_enter Tryz.func84,Tryz.ntmps84
 go_wp2_with fail
 refine (AB HH).mono ?_
 rintro e w1 ⟨n,ok,rfl,hw1,hok,hn⟩
 subst hw1
 have HOK:=AC hok
 have HN:=AC hn
 clear hok hn HH
 cases ok
 ·go_wp2
  exact bodyPost_ret (v:= .tuple #[.slice none 0 0,.int .u64 0,.int .i64 2]) (by simp [results,Tryz.results84,go_sem]) rfl ⟨.inl ⟨fun h=>by (have:=(AB HOK).2 h;cases this),rfl⟩,zw _ _⟩
 have hdr:B5 B:=(AB HOK).1 rfl
 have hnn:n=((Bq B:Nat):Int):=by
  have h1:=(AB HN) hdr
  have h2:=hdr.2.2.2.2.2.2.2.2.1
  rw [h1,Bq];omega
 have hc1:1<=Bq B:=by have h2:=hdr.2.2.2.2.2.2.2.2.1;rw [Bq];omega
 have hc8:Bq B<=8:=by have h2:=hdr.2.2.2.2.2.2.2.2.2.1;rw [Bq];omega
 have hcl:64+56*Bq B<=B.length:=by (have h1:=hdr.2.2.2.2.2.2.2.2.1;have h2:=hdr.2.2.2.2.2.2.2.2.2.2;rw [Bq];omega)
 subst hnn
 have HDR:=AC hdr
 obtain ⟨N,hN⟩:∃N,N=Bq B:=⟨_,rfl⟩
 rw [<-hN] at hc1 hc8 hcl ⊢
 have HSC:=AC hN
 obtain ⟨is,his,hz0,hz1,hz2⟩:=info_parts Um
 have HIS:=AC (And.intro his (And.intro hz0 (And.intro hz1 hz2)))
 clear hdr hN HN HOK his hz0 hz1 hz2
 go_wp2
 go_loopw [7,8] (fun l k wr=>∃j:Nat,j<=N/\k= .int .i64 j/\Hid (∀i,i<j->Ff B (64+56*i))/\Hid (wr.ownsRow w1.heap.size 287 5 l j (DO (BP B j)))/\Hid (Below w1.heap.size w1 wr)) (fun _ k _=>N-(intOf k).toNat)
 case atStart=>exact ⟨0,by omega,rfl,AC (fun i hi=>by omega),AC (World.ownsRow_nil _ _ _ _),AC (zw _ _)⟩
 case round=>
  obtain ⟨k,hk,rfl,HA,HOW,HBL⟩:=hrel
  by_cases hlt:k<N
  ·have hv1:BC wr b off B:=(AB HV).below (AB HBL) hbw
   have hbw1:b<wr.heap.size:=by have:=(AB HBL).size;omega
   have HSG:=AC (Jr b off cap B k wr (AB HB) (AB HNum).1 (by have:=AB HNum;omega) hv1 hbw1 (by omega) (by omega))
   clear hv1
   go_wp2_with fail
   refine (AB HSG).mono ?_
   rintro e w2 ⟨(⟨hsok,rfl⟩|⟨nok,x0,x1,x2,x3,x4,rfl⟩),hb2⟩
   case inr=>
    have NOK:=AC nok
    have HB2:=AC ((AB HBL).trans (hb2.mono (AB HBL).size))
    clear nok hb2
    go_wp2
    exact bodyPost_ret (v:= .tuple #[.slice none 0 0,.int .u64 0,.int .i64 3]) (by simp [results,Tryz.results84,go_sem]) rfl ⟨.inr (.inl ⟨AB HDR,fun h=>AB NOK (h k (by have:=AB HSC;omega)),rfl⟩),(AB HB2).alloc (by have:=(AB HB2).size;omega) _⟩
   have SOK:=AC hsok
   have HB2:=AC hb2
   have hs2:=hb2.size
   obtain ⟨s,hs⟩:∃s,s=Dc B (64+56*k):=⟨_,rfl⟩
   rw [<-hs]
   have HS:=AC hs
   have HOW2:=AC (BO (AB HOW) (AC hb2))
   have HBW2:=AC ((AB HBL).trans (hb2.mono (AB HBL).size))
   obtain ⟨o,ho⟩:∃o,o=Obj.cells (BS s).toArray 287:=⟨_,rfl⟩
   have hnw:∀j u,(BS s)[j]? =some u->((w2.alloc o).alloc o).cell? (((pK (w2.heap.size+1) 0):Addr).add j)=some u:=by
    have h:=AG.new (w2.alloc o) 287 (BS s)
    rw [<-ho] at h
    intro j u hj
    rw [CN,zq]
    have:=h.cell hj
    simpa using this
   have HNW:=AC hnw
   have HO:=AC ho
   have hsz1:w1.heap.size<=wr.heap.size:=(AB HBL).size
   have hk8:k<=8:=by omega
   clear hsok hb2 hs hnw ho
   unfold JH
   go_wp2_with (at_builtin;refine wpList_append_lies _ (by rfl) _ _ 285 (by rfl) w1.heap.size 287 is _ 5 40 Tryz.underlying285 (AB HIS).1 (AB HIS).2.1 (AB HIS).2.2.1 (AB HIS).2.2.2 rfl (by decide) _ _ _ (by rfl) (((AB HOW2).alloc _).alloc _) (pK (w2.heap.size+1) 0) 1 1 (BS s) (by rfl) (by rfl) (by have h:=AB HNW;rw [AB HO] at h;exact h) (by intro u hu;simp only [BS,List.mem_cons,List.not_mem_nil,or_false] at hu;rcases hu with rfl|rfl|rfl|rfl|rfl<;>rfl) (by omega) (by unfold maxLen;omega) (by omega) (by simp;omega) (w2.heap.size+2) (by simp) ?_;intro g cap5 w5 hown5 hgrow5 hat5 hlt5)
   have q1:w5.ownsRow w1.heap.size 287 5 (.slice (some (pK g 0)) (k+1) cap5) (k+1) (DO (BP B (k+1))):=by rw [ML,<-AB HS];exact hown5
   have q2:Below w1.heap.size w1 w5:=(((AB HBW2).alloc (by omega) _).alloc (by simp;omega) _).grown hgrow5 (by simp;omega) (by intro q h;have:=(AB HOW2).lt q h;omega)
   have Q1:=AC q1
   have Q2:=AC q2
   clear hown5 hgrow5 hat5 q1 q2
   go_roundw
   case rel=>exact ⟨k+1,by omega,by go_num,AC (fun i hi=>by rcases Nat.lt_succ_iff_lt_or_eq.1 hi with h|h;exact AB HA i h;rw [h];exact AB SOK),Q1,Q2⟩
   case measure=>simp [intOf];omega
  ·have hkn:k=N:=by omega
   subst hkn
   obtain ⟨W2,hW2⟩:∃W2,W2=wr:=⟨_,rfl⟩
   subst hW2
   obtain ⟨gl,cl,hu7,hg1,hg2⟩:=(AB HOW).form (by omega)
   subst hu7
   obtain ⟨fs,hfs⟩:∃fs,fs=BP B k:=⟨_,rfl⟩
   rw [<-hfs] at HOW
   have hfl:fs.length=k:=by rw [hfs,Ec]
   have HFIT:=AC (show ∀s∈fs,EI B s from M5 (AB HB) (AB HA) (by rw [hfs]))
   have HFF:=AC (show fs=BZ B from by rw [hfs,BZ,<-AB HSC])
   have HAO:=AC (show Ii B from fun i hi=>AB HA i (by rw [AB HSC];exact hi))
   have hsz1:w1.heap.size<=W2.heap.size:=(AB HBL).size
   obtain ⟨ip,hip,hpz0,hpz1,hpz2⟩:=info_parts Mn
   have HIP:=AC (And.intro hip (And.intro hpz0 (And.intro hpz1 hpz2)))
   clear hfs HA HSC HIS hip hpz0 hpz1 hpz2
   go_wp2
   go_loopw [11,12] (fun v i wr=>∃p:Nat,p<=256/\i= .int .i64 p/\Hid (∀q,q<p->fs.countP (fun s=>cov s q)<=1)/\Hid (wr.ownsRow W2.heap.size 138 258 v (Bb B fs p).length (Cd (Bb B fs p)))/\Hid (Below W2.heap.size W2 wr)) (fun _ i _=>256-(intOf i).toNat)
   case atStart=>exact ⟨0,by omega,rfl,AC (fun q hq=>by omega),AC (World.ownsRow_nil _ _ _ _),AC (zw _ _)⟩
   case round=>
    obtain ⟨p,hp,rfl,HC,HPO,HBL2⟩:=hrel
    by_cases hplt:p<256
    ·obtain ⟨W3,hW3⟩:∃W3,W3=wr:=⟨_,rfl⟩
     subst hW3
     have hsz3:W2.heap.size<=W3.heap.size:=(AB HBL2).size
     go_wp2_with (first|(refine FC rfl 138 _ rfl #[(0,.int .i64 p)] rfl (.agg (Aj p 0 Aq).toArray) (Un p) ?_)|(refine CA rfl 138 rfl (Aj 0 0 Aq).toArray Kx ?_)|(refine CK rfl 138 _ _ rfl W3.heap.size (Aj p 0 Aq) (by rfl) (by rfl) 138 (Aj 0 0 Aq) (AG.new _ _ _) (by rw [G1,Ai,Ak]) (by rw [Ai,Ai]) (Dd _ _ _) ?_;intro w6 hp6 hg6))
     have HB6:=AC (show Below W3.heap.size W3 w6 from ((zw W3.heap.size W3).alloc (zx _) _).trans (Ag hg6 (zx _) (by simp)))
     clear hg6
     go_loopw [14,15] (fun c i wk=>∃j:Nat,∃perm:Int,∃L:List Int,j<=k/\i= .int .i64 j/\c= .int .i64 ((fs.take j).countP (fun s=>cov s p):Nat)/\Hid (Ht B (fs.take j) p perm L)/\Hid (AG wk W3.heap.size 138 (Aj p perm L))/\Hid (Below W3.heap.size W3 wk)) (fun _ i _=>k-(intOf i).toNat)
     case atStart=>exact ⟨0,0,Aq,by omega,rfl,rfl,AC (SV B p),hp6,HB6⟩
     case round=>
      obtain ⟨j,perm,L,hj,rfl,rfl,HST,HPG,HB7⟩:=hrel
      obtain ⟨W4,hW4⟩:∃W4,W4=wr:=⟨_,rfl⟩
      subst hW4
      have hsz4:=(AB HB7).size
      obtain ⟨c,hc⟩:∃c,c=(fs.take j).countP (fun s=>cov s p):=⟨_,rfl⟩
      rw [<-hc]
      have hc8:c<=8:=by rw [hc];have h1:=List.countP_le_length (p:=fun s=>cov s p) (l:=fs.take j);have h2:=List.length_take_le j fs;omega
      have HCC:=AC hc
      clear hc
      by_cases hjk:j<k
      ·obtain ⟨s,hs⟩:∃s,s=fs.getD j Dw:=⟨_,rfl⟩
       have hsj:fs[j]? =some s:=by rw [hs,List.getD,zz (by omega)];rfl
       have htk:fs.take (j+1)=fs.take j++[s]:=by rw [List.take_add_one,hsj];rfl
       have hfit:=AB HFIT s (zv hsj)
       have hbel:Below W2.heap.size W2 W4:=(AB HBL2).trans ((AB HB7).mono hsz3)
       have cc:∀i v,i<5->(BS s)[i]? =some v->W4.cell? (pK gl (j*5+i))=some v:=fun i v hi hv=>by
        rw [hbel.cell (p:=(pK gl (j*5+i))) hg2,(AB HOW).cellAt _ (by omega)];exact Lk fs j i s v hsj hi hv
       have HS:=AC (And.intro hsj htk)
       clear hsj htk hs hbel
       obtain ⟨P,O,A,F,M⟩:=s
       obtain ⟨A0,O0,F0,M1,hFM,hOF,hAM⟩:=hfit
       simp only at A0 O0 F0 M1 hFM hOF hAM
       have c0:W4.cell? (pK gl (j*5))=some (.int .i64 P):=cc 0 _ (by omega) rfl
       have c1:W4.cell? (pK gl (j*5+1))=some (.int .u64 O):=cc 1 _ (by omega) rfl
       have c2:W4.cell? (pK gl (j*5+2))=some (.int .u64 A):=cc 2 _ (by omega) rfl
       have c3:W4.cell? (pK gl (j*5+3))=some (.int .u64 F):=cc 3 _ (by omega) rfl
       have c4:W4.cell? (pK gl (j*5+4))=some (.int .u64 M):=cc 4 _ (by omega) rfl
       clear cc
       obtain ⟨o,ho⟩:∃o,o=Obj.cells #[.int .i64 P,.int .u64 O,.int .u64 A,.int .u64 F,.int .u64 M] 287:=⟨_,rfl⟩
       have hpA:=(AB HPG).alloc o
       have HPA:=AC hpA
       have HBA:=AC ((AB HB7).alloc hsz4 o)
       have HSA:=AC (show AG (W4.alloc o) W4.heap.size 287 (BS ⟨P,O,A,F,M⟩) from by rw [ho];exact AG.new W4 287 (BS ⟨P,O,A,F,M⟩))
       have p1:(W4.alloc o).cell? (pK W3.heap.size 1)=some (.int .i64 perm):=hpA.cell rfl
       have pf:=hpA.frozen 1
       rw [ho] at p1 pf
       have hpl:=(AB HPG).lt
       have HO:=AC ho
       obtain ⟨FI,hFI⟩:∃x,x=A/256:=⟨_,rfl⟩
       obtain ⟨LA,hLA⟩:∃x,x=(A+M-1)/256:=⟨_,rfl⟩
       have y1:wrap64 (IntKind.u64.wrap (A.tdiv 256))=FI:=by rw [hFI,Int.tdiv_eq_ediv_of_nonneg A0];exact NC _ (by omega) (by omega)
       have y2:IntKind.u64.wrap (A+M)=A+M:=by rw [ym];omega
       have y3:IntKind.u64.wrap (A+M-1)=A+M-1:=by rw [ym];omega
       have y4:wrap64 (IntKind.u64.wrap ((A+M-1).tdiv 256))=LA:=by rw [hLA,Int.tdiv_eq_ediv_of_nonneg (by omega)];exact NC _ (by omega) (by omega)
       have hcov:cov ⟨P,O,A,F,M⟩ p=true↔FI<=(p:Int)/\(p:Int)<=LA:=by rw [Ex,hFI,hLA];rfl
       have HCV:=AC hcov
       have hj0:(0:Int)<=(j:Int):=by omega
       have hj1:(j:Int)<(k:Int):=by omega
       have HNUM:=AC (And.intro A0 (And.intro O0 (And.intro F0 (And.intro M1 (And.intro hFM (And.intro hOF hAM))))))
       clear hpA ho hFI hLA hcov hFM hOF hAM M1 O0 F0 A0
       by_cases t1:(p:Int)<FI
       ·go_wp2
        go_roundw
        case rel=>
         have hcf:cov ⟨P,O,A,F,M⟩ p=false:=by rw [Bool.eq_false_iff];intro h;have:=(AB HCV).1 h;omega
         refine ⟨j+1,perm,L,by omega,by go_num,?_,AC ?_,?_,?_⟩
         ·rw [(AB HS).2,Il,hcf,<-AB HCC];simp
         ·rw [(AB HS).2];exact Lj (AB HST) hcf
         ·have:=HPA;rw [AB HO] at this;exact this
         ·have:=HBA;rw [AB HO] at this;exact this
        case measure=>simp [intOf];omega
       by_cases t2:LA<(p:Int)
       ·go_wp2
        go_roundw
        case rel=>
         have hcf:cov ⟨P,O,A,F,M⟩ p=false:=by rw [Bool.eq_false_iff];intro h;have:=(AB HCV).1 h;omega
         refine ⟨j+1,perm,L,by omega,by go_num,?_,AC ?_,?_,?_⟩
         ·rw [(AB HS).2,Il,hcf,<-AB HCC];simp
         ·rw [(AB HS).2];exact Lj (AB HST) hcf
         ·have:=HPA;rw [AB HO] at this;exact this
         ·have:=HBA;rw [AB HO] at this;exact this
        case measure=>simp [intOf];omega
       have HCT:=AC (show cov ⟨P,O,A,F,M⟩ p=true from (AB HCV).2 ⟨by omega,by omega⟩)
       have HPS:=AC (show AG ((W4.setCell (pK W3.heap.size 1) (.int .i64 P)).alloc o) W3.heap.size 138 (Aj p P L) from ((AB HPG).set 1 (.int .i64 P)).alloc o)
       have hss4:(W4.setCell (pK W3.heap.size 1) (.int .i64 P)).heap.size=W4.heap.size:=by simp [World.setCell]
       have HBS:=AC (((AB HB7).setCell (p:=(pK W3.heap.size 1)) (zx _) (.int .i64 P)).alloc (by rw [hss4];exact hsz4) o)
       have HSS:=AC (show AG ((W4.setCell (pK W3.heap.size 1) (.int .i64 P)).alloc o) W4.heap.size 287 (BS ⟨P,O,A,F,M⟩) from by
        have h:=AG.new (W4.setCell (pK W3.heap.size 1) (.int .i64 P)) 287 (BS ⟨P,O,A,F,M⟩)
        rw [hss4] at h
        rw [AB HO];exact h)
       clear hss4
       rw [AB HO] at HPS HBS HSS
       go_wp2
       clear c0 c1 c2 c3 c4 p1 pf y1 y2 y3 y4 HSA HPA HBA
       go_loopw [19] (fun t wj=>∃m:Nat,m<=256/\t= .int .i64 m/\Hid (AG wj W3.heap.size 138 (Aj p P (Ek B ⟨P,O,A,F,M⟩ p L m)))/\Hid (AG wj W4.heap.size 287 (BS ⟨P,O,A,F,M⟩))/\Hid (Below W3.heap.size W3 wj)) (fun t _=>256-(intOf t).toNat)
       case atStart=>exact ⟨0,by omega,rfl,by rw [Uf _ _ _ _ (AB HST).1];exact HPS,HSS,HBS⟩
       case round=>
        obtain ⟨m,hm,rfl,HP8,HS8,HB8⟩:=hrel
        by_cases hm256:m<256
        ·have d1:wr.cell? (pK W4.heap.size 1)=some (.int .u64 O):=(AB HS8).cell rfl
         have d2:wr.cell? (pK W4.heap.size 2)=some (.int .u64 A):=(AB HS8).cell rfl
         have d3:wr.cell? (pK W4.heap.size 3)=some (.int .u64 F):=(AB HS8).cell rfl
         obtain ⟨A0,O0,F0,M1,hFM,hOF,hAM⟩:=AB HNUM
         have hlb:B.length<=500000:=by have:=AB HNum;omega
         obtain ⟨T,hT⟩:∃T,T=p*256+m:=⟨_,rfl⟩
         have e1:(p:Int)*256+(m:Int)=(T:Int):=by omega
         have hT5:(T:Int)<65536:=by omega
         have e2:IntKind.u64.wrap (T:Int)=(T:Int):=by rw [ym];omega
         have hin:JZ ⟨P,O,A,F,M⟩ p m↔A<=(T:Int)/\(T:Int)-A<F:=by
          unfold JZ;simp only;omega
         have HIN:=AC hin
         by_cases h1:A<=(T:Int)
         ·have e3:IntKind.u64.wrap ((T:Int)-A)=(T:Int)-A:=by rw [ym];omega
          by_cases h2:(T:Int)-A<F
          ·obtain ⟨X,hX⟩:∃X,X=O.toNat+(p*256+m-A.toNat):=⟨_,rfl⟩
           have e4:IntKind.u64.wrap (O+(T:Int))=O+(T:Int):=by rw [ym];omega
           have e5:O+(T:Int)-A=(X:Int):=by omega
           have e6:IntKind.u64.wrap (X:Int)=(X:Int):=by rw [ym];omega
           have hXB:X<B.length:=by omega
           have hXI:(X:Int)<(B.length:Int):=by omega
           have hbv:=((AB HV).below (AB HBL) hbw)
           have d4:wr.cell? (pK b (off+X))=some (.int .u8 (B.getD X 0)):=by
            rw [((AB HBL2).trans ((AB HB8).mono hsz3)).cell (p:=(pK b (off+X))) (by show b<_;omega)]
            exact hbv X hXB
           obtain ⟨y,hy⟩:∃y,y=B.getD X 0:=⟨_,rfl⟩
           rw [<-hy] at d4
           have hml:m<(Ek B ⟨P,O,A,F,M⟩ p L m).length:=by rw [Dl];omega
           have d5:wr.cell? (pK W3.heap.size (2+m))=some (.int .u8 ((Ek B ⟨P,O,A,F,M⟩ p L m).getD m 0)):=(AB HP8).cell (SX _ _ _ _ hml)
           have d6:=(AB HP8).frozen (2+m)
           have n1:=(AB HP8).set (2+m) (.int .u8 y)
           rw [SY,hy,hX,Zf ((AB HIN).2 ⟨h1,h2⟩) hm256,<-hX,<-hy] at n1
           have N1:=AC n1
           have N2:=AC ((AB HS8).set_other (c:=W3.heap.size) (by omega) (2+m) (.int .u8 y))
           have N3:=AC ((AB HB8).setCell (p:=(pK W3.heap.size (2+m))) (zx _) (.int .u8 y))
           generalize (Ek B ⟨P,O,A,F,M⟩ p L m).getD m 0=z at d5
           have hX0:(0:Int)<=(X:Int):=by omega
           have hm0:(0:Int)<=(m:Int):=by omega
           have hm1:(m:Int)<256:=by omega
           clear n1 hbv hy hX hT hin A0 O0 F0 M1 hFM hOF hAM hml
           go_wp2
           go_roundw
           case rel=>exact ⟨m+1,by omega,by go_num,N1,N2,N3⟩
           case measure=>simp [intOf];omega
          ·have hno:¬JZ ⟨P,O,A,F,M⟩ p m:=fun h=>h2 ((AB HIN).1 h).2
           have N1:=HP8
           rw [Pd hno] at N1
           have hm0:(0:Int)<=(m:Int):=by omega
           have hm1:(m:Int)<256:=by omega
           clear hT hin hlb A0 O0 F0 M1 hFM hOF hAM d1 hno
           go_wp2
           go_roundw
           case rel=>exact ⟨m+1,by omega,by go_num,N1,HS8,HB8⟩
           case measure=>simp [intOf];omega
         ·have hno:¬JZ ⟨P,O,A,F,M⟩ p m:=fun h=>h1 ((AB HIN).1 h).1
          have N1:=HP8
          rw [Pd hno] at N1
          have hm0:(0:Int)<=(m:Int):=by omega
          have hm1:(m:Int)<256:=by omega
          clear hT hin hlb A0 O0 F0 M1 hFM hOF hAM d1 hno
          go_wp2
          go_roundw
          case rel=>exact ⟨m+1,by omega,by go_num,N1,HS8,HB8⟩
          case measure=>simp [intOf];omega
        ·have hmm:m=256:=by omega
         subst hmm
         go_wp2
         go_roundw
         case rel=>
          refine ⟨j+1,P,Ek B ⟨P,O,A,F,M⟩ p L 256,by omega,by go_num,?_,AC ?_,HP8,HB8⟩
          ·rw [(AB HS).2,Il,AB HCT,<-AB HCC];simp
          ·rw [(AB HS).2];exact Ui (AB HST) (AB HCT)
         case measure=>simp [intOf];omega
      ·have hjk2:j=k:=by omega
       subst hjk2
       have htk:fs.take j=fs:=yh (by omega)
       rw [htk] at HST HCC
       have HBW4:=AC ((AB HBL).trans (((AB HBL2).trans ((AB HB7).mono hsz3)).mono hsz1))
       by_cases h1:1<c
       ·go_wp2
        exact bodyPost_ret (v:= .tuple #[.slice none 0 0,.int .u64 0,.int .i64 4]) (by simp [results,Tryz.results84,go_sem]) rfl ⟨.inr (.inr ⟨AB HDR,AB HAO,.inl ⟨⟨p,hplt,by rw [<-AB HFF,<-AB HCC];exact h1⟩,rfl⟩⟩),AB HBW4⟩
       have hcnt:∀q,q<p+1->fs.countP (fun s=>cov s q)<=1:=fun q hq=>by
        rcases Nat.lt_succ_iff_lt_or_eq.1 hq with h|h
        ·exact AB HC q h
        ·rw [h,<-AB HCC];omega
       have HCN:=AC hcnt
       clear hcnt
       have E1:=BO (AB HPO) HB7
       have hBel:=(AB HBL2).trans ((AB HB7).mono hsz3)
       by_cases h2:c=1
       ·subst h2
        obtain ⟨s,hs⟩:=Uj (AB HCC).symm
        obtain ⟨hpe,hLe⟩:=(AB HST).2.2 s hs
        obtain ⟨PP,hPP⟩:∃PP,PP=Aj p perm L:=⟨_,rfl⟩
        have hPl:PP.length=258:=by rw [hPP,Ai,(AB HST).1]
        have hone:∀v∈PP,v.oneCell'=true:=by rw [hPP];exact Dd _ _ _
        have E0:=HPG
        rw [<-hPP] at E0
        have hnl:=GI (B:=B) (AB HC)
        have hsuc:Bb B fs (p+1)=Bb B fs p++[⟨(p:Nat),perm,L⟩]:=by rw [GY,hs,hpe,hLe];rfl
        have hrow:Cd (Bb B fs (p+1))=Cd (Bb B fs p)++PP:=by rw [hsuc,Og,Uh,hPP]
        have hlen:(Bb B fs (p+1)).length=(Bb B fs p).length+1:=by rw [hsuc,zn];rfl
        have HROW:=AC (And.intro hrow hlen)
        obtain ⟨n,hn⟩:∃n,n=(Bb B fs p).length:=⟨_,rfl⟩
        obtain ⟨xs,hxs⟩:∃xs,xs=Cd (Bb B fs p):=⟨_,rfl⟩
        rw [<-hn,<-hxs] at E1
        rw [<-hn] at hnl
        rw [<-hn,<-hxs] at HROW
        have HE1:=AC E1
        have HPL:=AC hPl
        have HONE:=AC hone
        have HBE:=AC hBel
        clear hs hpe hLe hPP hPl hone hsuc hrow hlen hn hxs E1 hBel HPO
        go_wp2_with (first|(refine wpList_load_mid rfl 138 _ rfl W3.heap.size 0 (by rfl) PP _ (AB E0).range Tryz.underlying138 rfl (by rw [G1,AB HPL]) ?_)|(refine FU rfl 77 138 _ rfl PP (by rfl) ip _ Tryz.underlying77 (AB HIP).1 (AB HIP).2.1 (by rw [(AB HIP).2.2.1,AB HPL]) (by rw [AB HPL];omega) (by rw [AB HPL];omega) ?_)|(at_builtin;refine wpList_append_lies _ (by rfl) _ _ 77 (by rfl) W2.heap.size 138 ip _ 258 272 Tryz.underlying77 (AB HIP).1 (AB HIP).2.1 (AB HIP).2.2.1 (AB HIP).2.2.2 (by simp [Value.cells,Ai,Ak]) (by decide) u11 n xs (by rfl) ((AB HE1).alloc _) (pK W4.heap.size 0) 1 1 PP (by rfl) (by rw [AB HPL]) (by have:=World.news_of_block (cs:=PP.toArray) (t:=138) (fr:=(0,0)) (heap_alloc_new W4 _);simpa using this) (AB HONE) (by omega) (by unfold maxLen;omega) (by omega) (by simp;omega) (W4.heap.size+1) (by simp) ?_;intro g cap5 w8 hown8 hgrow8 hat8 hlt8))
        have f1:w8.ownsRow W2.heap.size 138 258 (.slice (some (pK g 0)) (n+1) cap5) (Bb B fs (p+1)).length (Cd (Bb B fs (p+1))):=by rw [(AB HROW).1,(AB HROW).2];exact hown8
        have f2:Below W2.heap.size W2 w8:=((AB HBE).alloc (by omega) _).grown hgrow8 (by simp;omega) (by intro q h;have:=(AB HE1).lt q h;omega)
        have F1:=AC f1
        have F2:=AC f2
        clear hown8 hgrow8 hat8 f1 f2
        go_roundw
        case rel=>exact ⟨p+1,by omega,by go_num,HCN,F1,F2⟩
        case measure=>simp [intOf];omega
       ·have h0:c=0:=by omega
        subst h0
        have hs:=SW (AB HCC).symm
        have hsuc:Bb B fs (p+1)=Bb B fs p:=by rw [GY,hs];simp
        rw [<-hsuc] at E1
        have F1:=AC E1
        have F2:=AC hBel
        clear hs hsuc E1 hBel HPO
        go_wp2
        go_roundw
        case rel=>exact ⟨p+1,by omega,by go_num,HCN,F1,F2⟩
        case measure=>simp [intOf];omega
    ·have hp256:p=256:=by omega
     subst hp256
     obtain ⟨W5,hW5⟩:∃W5,W5=wr:=⟨_,rfl⟩
     subst hW5
     have hsz5:W2.heap.size<=W5.heap.size:=(AB HBL2).size
     have HBW5:=AC ((AB HBL).trans ((AB HBL2).mono hsz1))
     have hv5:BC W5 b off B:=(AB HV).below (AB HBW5) hbw
     have h64:64<=B.length:=by omega
     obtain ⟨E,hE⟩:∃E,E=AW B 24 8:=⟨_,rfl⟩
     have hE8:=BH (AB HB) 24 8 (by omega)
     have HNU:=AC (BF b (off+24) 8 (cap-24) B 24 W5 (AB HB) (by omega) (fun j hj=>by rw [Nat.add_assoc];exact hv5 (24+j) (by omega)))
     rw [<-hE] at HNU hE8
     have ne24:¬cap=24:=by have:=(AB HNum).1;omega
     have h32:(32:Int)<=(cap:Int):=by have:=(AB HNum).1;omega
     obtain ⟨hE0,hE9⟩:=hE8
     have HE:=AC hE
     have hpos:=Uo (B:=B) (fs:=fs) (by omega) (AB HFIT)
     obtain ⟨g,gc,hu11,hgl,hgs⟩:=(AB HPO).form hpos
     subst hu11
     obtain ⟨PS,hPS⟩:∃PS,PS=Bb B fs 256:=⟨_,rfl⟩
     have hby:=KT B fs 256
     have hnl:=GI (B:=B) (AB HC)
     have hPSF:PS=Bb B (BZ B) 256:=by rw [hPS,AB HFF]
     rw [<-hPS] at HPO hby hnl
     rw [<-hPS]
     have HPSF:=AC hPSF
     have HBY:=AC hby
     have HNO:=AC (show ∀p,p<256->(BZ B).countP (fun s=>cov s p)<=1 from by rw [<-AB HFF];exact AB HC)
     clear hE hv5 hpos hPS hPSF hby hE9 HC HFF HFIT
     go_wp2_with fail
     refine (AB HNU).mono ?_
     rintro e w9 ⟨rfl,hw9⟩
     subst hw9
     by_cases t1:E%4=0
     case neg=>
      have f1:(E%4 !=0)=true:=by simpa using t1
      have T1:=AC t1
      clear t1
      go_wp2
      exact bodyPost_ret (v:= .tuple #[.slice none 0 0,.int .u64 0,.int .i64 5]) (by simp [results,Tryz.results84,go_sem]) rfl ⟨.inr (.inr ⟨AB HDR,AB HAO,.inr ⟨AB HNO,.inl ⟨fun h=>AB T1 (by rw [AB HE];exact h.1),rfl⟩⟩⟩),AB HBW5⟩
     have f1:(E%4 !=0)=false:=by simpa using t1
     have T1:=AC t1
     clear t1
     by_cases t2:E<65536
     case neg=>
      go_wp2
      exact bodyPost_ret (v:= .tuple #[.slice none 0 0,.int .u64 0,.int .i64 5]) (by simp [results,Tryz.results84,go_sem]) rfl ⟨.inr (.inr ⟨AB HDR,AB HAO,.inr ⟨AB HNO,.inl ⟨fun h=>by (have h9:=h.2.1;rw [<-AB HE] at h9;omega),rfl⟩⟩⟩),AB HBW5⟩
     obtain ⟨Q,hQ⟩:∃Q,Q=E/256:=⟨_,rfl⟩
     have y1:wrap64 (IntKind.u64.wrap (E.tdiv 256))=Q:=by rw [hQ,Int.tdiv_eq_ediv_of_nonneg hE0];exact NC _ (by omega) (by omega)
     have y2:wrap64 (E/256)=Q:=by rw [hQ];unfold wrap64;omega
     have y3:IntKind.i64.wrap (E/256)=Q:=by rw [hQ];exact EG _ (by omega) (by omega)
     have HQ:=AC hQ
     clear hQ
     go_wp2
     go_loopw [22] (fun i wr=>∃m:Nat,m<=PS.length/\i= .int .i64 m/\Hid (∀q∈PS.take m,¬(q.num=Q/\bits BinOp.and IntKind.i64 q.perm 1=1))/\Hid (wr.heap=w9.heap)/\Hid (Below w1.heap.size w1 wr)) (fun i _=>PS.length-(intOf i).toNat)
     case atStart=>exact ⟨0,by omega,rfl,AC (fun q hq=>by simp at hq),AC rfl,HBW5⟩
     case round=>
      obtain ⟨m,hm,rfl,HNE,HHE,HBR⟩:=hrel
      by_cases hml:m<PS.length
      ·obtain ⟨q,hq⟩:∃q,PS[m]? =some q:=⟨_,zz hml⟩
       have hcells:∀a,wr.cell? a=w9.cell? a:=fun a=>by unfold World.cell?;rw [AB HHE]
       have c0:wr.cell? (pK g (m*258))=some (.int .i64 q.num):=by
        rw [hcells,(AB HPO).cellAt _ (by omega)];exact Hu PS m 0 q (AB HBY) hq (by omega) _ rfl
       have c1:wr.cell? (pK g (m*258+1))=some (.int .i64 q.perm):=by
        rw [hcells,(AB HPO).cellAt _ (by omega)];exact Hu PS m 1 q (AB HBY) hq (by omega) _ rfl
       have htk:PS.take (m+1)=PS.take m++[q]:=by rw [List.take_add_one,hq];rfl
       have HTK:=AC htk
       have HQM:=AC (zv hq)
       obtain ⟨n1,n2,n3⟩:=q
       simp only at c0 c1
       obtain ⟨X,hX⟩:∃X,X=bits BinOp.and IntKind.i64 n2 1:=⟨_,rfl⟩
       have hX':=hX.symm
       have HX:=AC hX
       have hm0:(0:Int)<=(m:Int):=by omega
       have hm1:(m:Int)<(PS.length:Int):=by omega
       clear hcells htk hq hX
       by_cases t3:n1=Q
       ·have g1:(n1==Q)=true:=by simpa using t3
        have T3:=AC t3
        by_cases t4:X=1
        ·have g2:(X==1)=true:=by simpa using t4
         have T4:=AC t4
         have HOWR:=AC (show wr.ownsRow w1.heap.size 138 258 (.slice (some (pK g 0)) PS.length gc) PS.length (Cd PS) from by
          refine EJ ?_ hsz1
          have h:=AB HPO
          unfold World.ownsRow at h ⊢
          rw [AB HHE];exact h)
         clear t3 t4
         go_wp2
         refine bodyPost_ret (v:= .tuple #[.slice (some (pK g 0)) PS.length gc,.int .u64 E,.int .i64 0]) (by simp [results,Tryz.results84,go_sem]) rfl ⟨.inr (.inr ⟨AB HDR,AB HAO,.inr ⟨AB HNO,.inr ⟨?_,g,gc,?_,?_⟩⟩⟩),AB HBR⟩
         ·rw [<-AB HE,<-AB HPSF]
          exact ⟨AB T1,t2,_,AB HQM,by rw [<-AB HQ];exact AB T3,by rw [<-AB HX];exact AB T4⟩
         ·rw [<-AB HE,<-AB HPSF]
         ·rw [<-AB HPSF];exact AB HOWR
        ·have g2:(X==1)=false:=by simpa using t4
         have T4:=AC t4
         clear t3 t4
         go_wp2
         go_roundw
         case rel=>exact ⟨m+1,by omega,by go_num,AC (fun q hq=>by
          rw [AB HTK,List.mem_append] at hq
          rcases hq with hq|hq
          ·exact AB HNE q hq
          ·have e:=List.mem_singleton.1 hq
           subst e
           exact fun h=>AB T4 (by rw [AB HX];exact h.2)),HHE,HBR⟩
         case measure=>simp [intOf];omega
       ·have g1:(n1==Q)=false:=by simpa using t3
        have T3:=AC t3
        clear t3
        go_wp2
        go_roundw
        case rel=>exact ⟨m+1,by omega,by go_num,AC (fun q hq=>by
         rw [AB HTK,List.mem_append] at hq
         rcases hq with hq|hq
         ·exact AB HNE q hq
         ·have e:=List.mem_singleton.1 hq
          subst e
          exact fun h=>AB T3 h.1),HHE,HBR⟩
        case measure=>simp [intOf];omega
      ·have hmm:m=PS.length:=by omega
       subst hmm
       go_wp2
       exact bodyPost_ret (v:= .tuple #[.slice none 0 0,.int .u64 0,.int .i64 5]) (by simp [results,Tryz.results84,go_sem]) rfl ⟨.inr (.inr ⟨AB HDR,AB HAO,.inr ⟨AB HNO,.inl ⟨fun h=>by
        obtain ⟨_,_,q,hq,h3,h4⟩:=h
        rw [<-AB HPSF] at hq
        exact AB HNE q (by rw [List.take_length];exact hq) ⟨by rw [h3,<-AB HE,<-AB HQ],h4⟩,rfl⟩⟩⟩),AB HBR⟩
end Go.Proofs.YtdchgbmliojoiaaGreatDoor
