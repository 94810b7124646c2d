import Derived.Test.YtdchgbmliojoiaaGreatDoorG39
import Derived.Test.YtdchgbmliojoiaaGreatDoorG40
set_option maxRecDepth 100000
set_option maxHeartbeats 2000000
set_option linter.unusedVariables false
set_option linter.unusedSimpArgs false
namespace Go.Proofs.YtdchgbmliojoiaaGreatDoor
section
open Go Go.RowKit Go.Maps
theorem O5 (kb pm pb:Nat) (w:World) (hk:w.cell? (pK kb 9)=some (.map (some pm))) (hkl:kb<w.heap.size) (hm:A6 w pm pb) (h1:w.cell? (pK pb 65809)=some (.int .i64 1)) (h2:w.cell? (pK pb 65810)=some (.int .i64 0)):
  Calls Tryz.prog 195 #[pq kb 0,pq pb 0] w fun e w'=>e= .returned (.slice none 0 0)/\Below w.heap.size w w':=by
 have hpl:pb<w.heap.size:=zu w _ h1
 have HAL:=AC (WY kb pm pb w hk hkl hm)
 have HC:=AC (show ∀W,Below w.heap.size w W->W.cell? (pK pb 65809)=some (.int .i64 1)/\W.cell? (pK pb 65810)=some (.int .i64 0) from fun W hb=>⟨by rw [hb.cell (p:=(pK pb 65809)) hpl];exact h1,by rw [hb.cell (p:=(pK pb 65810)) hpl];exact h2⟩)
 clear hm h1 h2
 go_enter Tryz.func195,Tryz.ntmps195
 go_wp2_with fail
 refine (AB HAL).mono ?_
 rintro e w2 ⟨v2,rfl,ho2,hb2⟩
 obtain ⟨g2,c2,rfl,hg2,hgl2⟩:=ho2.form (by omega)
 have s0:w2.cell? (pK g2 0)=some (pq pb 0):=ho2.cellAt 0 (by omega)
 have HB2:=AC hb2
 clear ho2 hb2 hg2 hgl2 HAL hk
 go_wp2
 go_loopw [5,11] (fun v i wr=>∃k:Nat,k<=1/\i= .int .i64 k/\v= .slice none 0 0/\Hid (Below w2.heap.size w2 wr)) (fun _ i _=>1-(intOf i).toNat)
 case atStart=>exact ⟨0,by omega,rfl,rfl,AC (zw _ _)⟩
 case round=>
  obtain ⟨k,hk,rfl,rfl,HR⟩:=hrel
  have hbr:=AB HR
  have h3:k=0\/k=1:=by omega
  rcases h3 with rfl|rfl
  ·have s0r:wr.cell? (pK g2 0)=some (pq pb 0):=by rw [hbr.cell (p:=(pK g2 0)) (zu w2 _ s0)];exact s0
   have hc:=AB HC wr.drew ((AB HB2).trans (hbr.mono (AB HB2).size)).drew
   have HCC:=AC hc
   have HB3:=AC (show Below w2.heap.size w2 wr.drew from hbr.drew)
   clear hc hbr s0
   go_upto_region 5 with fail
   go_region_held (fun W=>W.cell? (pK pb 65809)=some (.int .i64 1)/\W.cell? (pK pb 65810)=some (.int .i64 0)) (exact AB HCC) (fail)
   go_wp2
   exact ⟨⟨1,by omega,by simp,rfl,HB3⟩,by simp [intOf]⟩
  ·clear hbr
   go_wp2
   go_ret
   exact ⟨rfl,(AB HB2).trans ((AB HR).mono (AB HB2).size)⟩
theorem IH {E:Int} {R:List Int} {S:List Value} (pid par st su wk:Int) (fds:List Value) (hR:R.length=16) (hS:S.length=65792) (j:Nat) (v:Value):(AZ E R S pid par st su wk fds).set (65809+j) v=Cg E R S++(([Value.int .i64 pid,Value.int .i64 par,Value.int .i64 st,Value.int .i64 su,Value.int .i64 wk]++fds).set j v):=by
 have hc:=Bz (E:=E) hR hS
 unfold AZ
 rw [List.set_append_right _ _ (by omega),hc,yj]
theorem N0 {E:Int} {R:List Int} {S Z:List Value} (pid par st su wk:Int) (fds:List Value) (hR:R.length=16) (hS:S.length=Z.length):splice (AZ E R S pid par st su wk fds) 17 Z=AZ E R Z pid par st su wk fds:=by
 unfold AZ Cg splice
 have h1:(Value.int .u64 E::R.map (Value.int .u64)).length=17:=by simp [hR]
 rw [ye,ye,yi (by omega),yh (by omega),List.drop_append,yg (by omega)]
 rw [yc,List.drop_append,yg (by omega),yc]
 rw [h1,show 17+Z.length-17-S.length=0 by omega,List.drop_zero]
theorem aw {w w':World} {pb:Nat} {E:Int} {R:List Int} {S:List Value} {pid par st su wk:Int} {fds:List Value} {i:Nat} (h:AG w pb 195 (AZ E R S pid par st su wk fds)) (hR:R.length=16) (hS:S.length=65792) (hb:Below (w.setCell (pK pb (65814+i)) .nilIface).heap.size (w.setCell (pK pb (65814+i)) .nilIface) w'):AG w' pb 195 (AZ E R S pid par st su wk (fds.set i .nilIface))/\w.grownBy w' (some pb):=by
 have h1:=h.set (65814+i) .nilIface
 have h2:=h1.below hb h1.lt
 have hg:=AS (zk w (some pb)) (65814+i) .nilIface
 refine ⟨?_,⟨hb.os.trans hg.os,hb.tape.trans hg.tape,hb.output.trans hg.output,zh hg.size hb.size,fun k hk hn=> ?_⟩⟩
 ·rw [show 65814+i=65809+(5+i) by omega,IH _ _ _ _ _ _ hR hS,List.set_append_right _ _ (by simp)] at h2
  simpa [AZ] using h2
 ·have hs:w.heap.size<=(w.setCell (pK pb (65814+i)) .nilIface).heap.size:=hg.size
  rw [hb.block k (by omega),hg.block k hk hn]
def J5 (xs:List Value):Nat->List Value
 |0=>xs
 |k+1=>(J5 xs k).set k .nilIface
theorem J6 {cb:Nat} {xs:List Value} (h:GM cb xs):∀k,GM cb (J5 xs k)
 |0=>h
 |k+1=>⟨by show ((J5 xs k).set k _).length=8;rw [yx];exact (J6 h k).1,fun y hy=>by
  rcases List.mem_or_eq_of_mem_set hy with h1|h1
  ·exact (J6 h k).2 y h1
  ·exact .inr h1⟩
theorem ax {xs:List Value} (h:xs.length=8):J5 xs 8=IS:=by
 match xs,h with
 |[_,_,_,_,_,_,_,_],_=>rfl
theorem dX (kb pm pb cb:Nat) (E:Int) (R:List Int) (S:List Value) (st su wk:Int) (xs:List Value) (s:Int) (w:World) (hk:w.cell? (pK kb 9)=some (.map (some pm))) (hk6:w.cell? (pK kb 6)=some (pq cb 0)) (hkl:kb<w.heap.size) (hkp:kb≠pb) (hmp:pm≠pb) (hm:A6 w pm pb) (hp:AG w pb 195 (AZ E R S 1 0 st su wk xs)) (hR:R.length=16) (hS:S.length=65792) (hst:st≠1) (hx:GM cb xs):
  Calls Tryz.prog 156 #[pq kb 0,pq pb 0,.int .i64 s] w fun e w'=>e= .returned (.tuple #[])/\w.grownBy w' (some pb)/\AG w' pb 195 (AZ E R (Af []) 1 0 2 s wk IS):=by
 obtain ⟨Z,hZ⟩:∃Z,Z=Ah:=⟨_,rfl⟩
 have hZl:Z.length=65792:=by rw [hZ];exact Ca
 have hZ1:∀v∈Z,v.oneCell'=true:=by rw [hZ,<-JA];exact Hj []
 have HZC:=AC (show Tryz.zeroCells188=Z.toArray from by rw [hZ];exact Mj)
 rw [JA,<-hZ]
 have c2:w.cell? (pK pb 65811)=some (.int .i64 st):=hp.cell (FN hR hS 2 _ rfl)
 have c3:w.cell? (pK pb 65812)=some (.int .i64 su):=hp.cell (FN hR hS 3 _ rfl)
 have f2:=hp.frozen 65811
 have f3:=hp.frozen 65812
 have hq:(st==1)=false:=by simpa using hst
 obtain ⟨W3,hW3⟩:∃W3,W3=(w.setCell (pK pb 65811) (.int .i64 2)).setCell (pK pb 65812) (.int .i64 s):=⟨_,rfl⟩
 have hg3:w.grownBy W3 (some pb):=by rw [hW3];exact AS (AS (zk w (some pb)) 65811 _) 65812 _
 have hr3:AG W3 pb 195 (AZ E R S 1 0 2 s wk xs):=by
  have h1:=(hp.set 65811 (.int .i64 2)).set 65812 (.int .i64 s)
  rw [<-hW3] at h1
  have e1:(AZ E R S 1 0 st su wk xs).set 65811 (.int .i64 2)=AZ E R S 1 0 2 su wk xs:=IH 1 0 st su wk xs hR hS 2 _
  have e2:(AZ E R S 1 0 2 su wk xs).set 65812 (.int .i64 s)=AZ E R S 1 0 2 s wk xs:=IH 1 0 2 su wk xs hR hS 3 _
  rw [e1,e2] at h1
  exact h1
 have hfit:17+Z.length<=(AZ E R S 1 0 2 s wk xs).length:=by
  unfold AZ
  rw [zn,Bz hR hS]
  omega
 obtain ⟨ROW,hROW⟩:∃ROW,ROW=AZ E R S 1 0 2 s wk xs:=⟨_,rfl⟩
 have hspl:=N0 (E:=E) 1 0 2 s wk xs hR (hS.trans hZl.symm)
 rw [<-hROW] at hr3 hfit hspl
 have HKS:=AC (show ∀W,w.grownBy W (some pb)->(W.cell? (pK kb 9)=some (.map (some pm))/\W.cell? (pK kb 6)=some (pq cb 0))/\kb<W.heap.size/\A6 W pm pb from fun W hg=>⟨⟨hg.cell hk (by simpa using hkp),hg.cell hk6 (by simpa using hkp)⟩,za hkl hg.size,hm.kept hg (by simpa using hmp)⟩)
 have HX:=AC hx
 have HG3:=AC hg3
 have HR3:=AC hr3
 have HW3:=AC hW3
 have HNE:=AC (And.intro hkp hmp)
 have HFIT:=AC hfit
 have HSPL:=AC hspl
 have HZL:=AC hZl
 have HZ1:=AC hZ1
 have HRL:=AC hR
 clear hk hk6 hkl hkp hmp hm hp hR hS hx hg3 hr3 hW3 hfit hspl hZl hZ1 hZ hst hROW
 go_enter Tryz.func156,Tryz.ntmps156
 go_upto_region 4 with fail
 rw [<-AB HW3]
 clear c2 c3 f2 f3 hq
 go_upto_region 5 with (refine Et rfl 188 (.tmp 30) (.tmp 27) rfl pb 17 Z (by rfl) (by show Value.agg Tryz.zeroCells188=Value.agg Z.toArray;rw [AB HZC]) 195 ROW (AB HR3) (by rw [JD,AB HZL]) (AB HFIT) (AB HZ1) ?_;intro w6 H6 G6)
 rw [AB HSPL] at H6
 have HR6:=AC (AB H6)
 have HG6:=AC (EA (AB HG3) (AB G6))
 clear H6 G6 HG3 HR3 HW3 HFIT HSPL HZC HZ1
 go_wp2
 go_loopw [31] (fun i wr=>∃k:Nat,k<=8/\i= .int .i64 k/\Hid (w.grownBy wr (some pb))/\Hid (AG wr pb 195 (AZ E R Z 1 0 2 s wk (J5 xs k)))) (fun i _=>8-(intOf i).toNat)
 case atStart=>exact ⟨0,by omega,rfl,HG6,HR6⟩
 case round=>
  obtain ⟨k,hk,rfl,HG,HR⟩:=hrel
  have hks:=AB HKS wr (AB HG)
  have hh:=AB HR
  by_cases hk8:k<8
  ·have k1:(k:Int)<8:=by omega
   have HFR:=AC (aF kb pm pb cb (J5 xs k) k wr hk8 hks.1.1 hks.1.2 hks.2.1 (AB HNE).1 (AB HNE).2 hks.2.2 hh.lt (J6 (AB HX) k) (fun j v hv=>by
    rw [show 65814+j=65809+(5+j) by omega]
    refine hh.cell (FN (AB HRL) (AB HZL) (5+j) v ?_)
    rw [zo (by simp)]
    simpa using hv) (fun i=>hh.frozen i))
   clear hks hh
   go_wp2_with fail
   refine (AB HFR).mono ?_
   rintro e w7 ⟨rfl,hb7⟩
   have hr7:=aw (AB HR) (AB HRL) (AB HZL) hb7
   have HN:=AC (show w.grownBy w7 (some pb)/\AG w7 pb 195 (AZ E R Z 1 0 2 s wk (J5 xs (k+1))) from ⟨EA (AB HG) hr7.2,hr7.1⟩)
   clear hb7 hr7 HFR HG HR
   go_wp2
   exact ⟨⟨k+1,by omega,by simp,AC (AB HN).1,AC (AB HN).2⟩,by simp only [intOf];omega⟩
  ·have k1:¬(k:Int)<8:=by omega
   obtain rfl:k=8:=by omega
   have HCH:=AC (O5 kb pm pb wr hks.1.1 hks.2.1 hks.2.2 (hh.cell (FN (AB HRL) (AB HZL) 0 _ rfl)) (hh.cell (FN (AB HRL) (AB HZL) 1 _ rfl)))
   have HX8:=AC (AB HX).1
   clear hks hh hk8
   go_wp2_with fail
   refine (AB HCH).mono ?_
   rintro e w7 ⟨rfl,hb7⟩
   have HEND:=AC (show w.grownBy w7 (some pb)/\AG w7 pb 195 (AZ E R Z 1 0 2 s wk IS) from ⟨EA (AB HG) ⟨hb7.os,hb7.tape,hb7.output,hb7.size,fun k hk _=>hb7.block k hk⟩,by
    have:=(AB HR).below hb7 (AB HR).lt
    rwa [ax (AB HX8)] at this⟩)
   clear hb7 HCH HG HR
   go_wp2
   go_loopw [43] (fun i wx=>i= .int .i64 0/\wx=w7) (fun _ _=>0)
   case atStart=>exact ⟨rfl,rfl⟩
   case round=>
    obtain ⟨rfl,rfl⟩:=hrel
    go_wp2
    go_end0
    exact ⟨rfl,(AB HEND).1,(AB HEND).2⟩
theorem Yb (kb pm pb:Nat) (w:World) (hk:w.cell? (pK kb 9)=some (.map (some pm))) (hm:A6 w pm pb) (h:w.cell? (pK pb 65811)=some (.int .i64 0)):
  Calls Tryz.prog 138 #[pq kb 0,.int .i64 1] w fun e w'=>e= .returned (.tuple #[pq pb 0,.nilIface])/\w'=w:=by
 have hlk:=Nl hm
 clear hm
 go_enter Tryz.func138,Tryz.ntmps138
 go_wp2
 exact bodyPost_ret (v:= .tuple #[pq pb 0,.nilIface]) (by simp [results,Tryz.results138,go_sem]) rfl ⟨rfl,rfl⟩
theorem bS (kb pm pb:Nat) (w:World) (hk:w.cell? (pK kb 9)=some (.map (some pm))) (hm:A6 w pm pb) (h:w.cell? (pK pb 65811)=some (.int .i64 2)):
  Calls Tryz.prog 138 #[pq kb 0,.int .i64 1] w fun e w'=>e= .returned (.tuple #[.pointer none,.iface 47 (.int .i64 24)])/\w'=w:=by
 have hlk:=Nl hm
 clear hm
 go_enter Tryz.func138,Tryz.ntmps138
 go_wp2
 exact bodyPost_ret (v:= .tuple #[.pointer none,.iface 47 (.int .i64 24)]) (by simp [results,Tryz.results138,go_sem]) rfl ⟨rfl,rfl⟩
theorem bT (pid n:Int) (w:World) (hg:w.cell? (pK 0 0)=some (.iface 206 (.agg #[pq 6 41]))):
  Calls Tryz.prog 139 #[.int .i64 pid,.iface 47 (.int .i64 n)] w fun e w'=>∃q,e= .returned (.iface 332 (pq q 0))/\w'.cell? (pK q 1)=some (.int .i64 n)/\Below w.heap.size w w':=by
 have HT:=AC (PO n w hg)
 clear hg
 go_enter Tryz.func139,Tryz.ntmps139
 go_wp2_with fail
 refine (AB HT).mono ?_
 rintro e w2 ⟨rfl,hb2⟩
 have HB2:=AC hb2
 clear hb2 HT
 go_wp2
 go_ret
 refine ⟨w2.heap.size,rfl,?_,(AB HB2).alloc (AB HB2).size _⟩
 simp
def MR (p:AP) (cb:Nat):List Value:=if p.st=0 then DW cb 3 else IS
theorem Th (kb pm pb cb:Nat) (p:AP) (w:World) (hk:w.cell? (pK kb 9)=some (.map (some pm))) (hk6:w.cell? (pK kb 6)=some (pq cb 0)) (hkl:kb<w.heap.size) (hkp:kb≠pb) (hmp:pm≠pb) (hm:A6 w pm pb) (hp:AG w pb 195 (CT p 0 (DW cb 3))) (hc:Can p) (hok:As p.PS) (hst:p.st=0) (h24:(AH p.PS p.pc).2=0->(AH p.PS p.pc).1.op≠24):
  Calls Tryz.prog 103 #[pq kb 0,.int .i64 1] w fun e w'=>e= .returned .nilIface/\w.grownBy w' (some pb)/\AG w' pb 195 (CT (Au p) 0 (MR (Au p) cb))/\(((Au p).st=0/\As (Au p).PS)\/∃s,Au p=p.ended s):=by
 have hSl:(Af p.PS).length=65792:=BD (fun q hq=>(hok.each q hq).2.2.2.2)
 have hs0:w.cell? (pK pb 65811)=some (.int .i64 0):=by
  have:=hp.cell (FN hc.api.regs hSl 2 _ rfl)
  rw [hst] at this
  exact this
 have HRD:=AC (Yb kb pm pb w hk hm hs0)
 have HST:=AC (Tg hp hc hok h24)
 have HEN:=AC (show ∀W s,Below w.heap.size w W->Calls Tryz.prog 156 #[pq kb 0,pq pb 0,.int .i64 s] W fun e w'=>e= .returned (.tuple #[])/\W.grownBy w' (some pb)/\AG w' pb 195 (CT (p.ended s) 0 IS) from fun W s hb=>by
  have hg:=A7 hb
  have hpW:=hp.below hb hp.lt
  unfold CT at hpW
  rw [hc.ok.pid,hc.ok.par] at hpW
  refine (dX kb pm pb cb p.pc p.R (Af p.PS) p.st p.su 0 (DW cb 3) s W (by rw [hb.cell (p:=(pK kb 9)) hkl];exact hk) (by rw [hb.cell (p:=(pK kb 6)) hkl];exact hk6) (za hkl hb.size) hkp hmp (hm.kept hg (by simp)) hpW hc.api.regs hSl (by omega) (TI cb)).mono ?_
  rintro e w' ⟨h1,h2,h3⟩
  refine ⟨h1,h2,?_⟩
  unfold CT AP.ended
  rw [hc.ok.pid,hc.ok.par]
  exact h3)
 have HP:=AC hp.lt
 have HS0:=AC hst
 clear hk hk6 hkl hkp hmp hm hp hc hok h24 hSl hs0 hst
 go_enter Tryz.func103,Tryz.ntmps103
 go_wp2_with fail
 refine (AB HRD).mono ?_
 rintro e w1 ⟨rfl,rfl⟩
 clear HRD
 go_wp2_with fail
 refine (AB HST).mono ?_
 rintro e w2 (⟨s,hs,hst,rfl,hb2⟩|⟨hst,rfl,hg2,hh2,hok2⟩)
 ·have HEN2:=AC (AB HEN w2 s hb2)
  have HB2:=AC hb2
  have HSO:=AC hst
  have hq:(s==0)=false:=by simpa using hs
  clear HST HEN hb2 hst hs
  go_wp2_with fail
  refine (AB HEN2).mono ?_
  rintro e w3 ⟨rfl,hg3,hh3⟩
  have HF:=AC (show w1.grownBy w3 (some pb)/\AG w3 pb 195 (CT (Au p) 0 (MR (Au p) cb))/\(((Au p).st=0/\As (Au p).PS)\/∃s,Au p=p.ended s) from by
   have hb2:=AB HB2
   refine ⟨⟨hg3.os.trans hb2.os,hg3.tape.trans hb2.tape,hg3.output.trans hb2.output,zh hb2.size hg3.size,fun k hk hn=>(hg3.block k (za hk hb2.size) hn).trans (hb2.block k hk)⟩,?_,.inr ⟨s,AB HSO⟩⟩
   rw [AB HSO]
   unfold MR
   rw [if_neg (by show ¬(2:Int)=0;decide)]
   exact hh3)
  clear hg3 hh3 HEN2 HB2
  go_wp2
  go_ret
  exact ⟨rfl,AB HF⟩
 ·have HF:=AC (show w1.grownBy w2 (some pb)/\AG w2 pb 195 (CT (Au p) 0 (MR (Au p) cb))/\(((Au p).st=0/\As (Au p).PS)\/∃s,Au p=p.ended s) from by
   have h0:(Au p).st=0:=hst.trans (AB HS0)
   refine ⟨hg2,?_,.inl ⟨h0,hok2⟩⟩
   unfold MR
   rw [if_pos h0]
   exact hh2)
  clear hg2 hh2 hok2 hst HEN HST
  go_wp2
  go_ret
  exact ⟨rfl,AB HF⟩
theorem RV (kb pm pb:Nat) (w:World) (hk:w.cell? (pK kb 9)=some (.map (some pm))) (hm:A6 w pm pb) (h:w.cell? (pK pb 65811)=some (.int .i64 2)) (hg:w.cell? (pK 0 0)=some (.iface 206 (.agg #[pq 6 41]))):
  Calls Tryz.prog 103 #[pq kb 0,.int .i64 1] w fun e w'=>∃q,e= .returned (.iface 332 (pq q 0))/\w'.cell? (pK q 1)=some (.int .i64 24)/\Below w.heap.size w w':=by
 have HRD:=AC (bS kb pm pb w hk hm h)
 have HWR:=AC (bT 1 24 w hg)
 clear hk hm h hg
 go_enter Tryz.func103,Tryz.ntmps103
 go_wp2_with fail
 refine (AB HRD).mono ?_
 rintro e w1 ⟨rfl,rfl⟩
 clear HRD
 go_wp2_with fail
 refine (AB HWR).mono ?_
 rintro e w2 ⟨q,rfl,h1,h2⟩
 have HF:=AC (And.intro h1 h2)
 clear h1 h2 HWR
 go_wp2
 go_ret
 exact ⟨q,rfl,AB HF⟩
theorem Ti {tk kb:Nat} {w:World} {R:Ending->World->Prop} (hT:w.cell? (pK tk 0)=some (pq kb 0)) (hR:∀e w',R e w'->∃v,e= .returned v) (h:Calls Tryz.prog 103 #[pq kb 0,.int .i64 1] w R):Calls Tryz.prog 51 #[pq tk 0,.int .i64 1] w R:=by
 have H:=AC h
 have HRR:=AC hR
 clear h hR
 go_enter Tryz.func51,Tryz.ntmps51
 go_wp2_with fail
 refine (AB H).mono ?_
 intro e w' he
 obtain ⟨v,rfl⟩:=AB HRR e w' he
 have HE:=AC he
 clear he H HRR
 go_wp2
 exact AB HE
theorem bh:Dt [] RH=[]:=by kernel_rfl
theorem Vf {p:AP} {w w':World} {e:Ending} (hF0:p.F=RH) (hle:p.le=0) (hp:p.PS=[]) (h:Mc p.pid p.par p.st p.su p.pc p.R p.PS 0 [] w e w'):F8 w [] [p] e w':=by
 obtain ⟨ag,ac,pa,ca,fa,fc,rfl,hb,hag,hal,hrow,hop,hof,h1,h2,h3⟩:=h
 have hF:Dt [] p.F=[]:=by rw [hF0];exact bh
 refine ⟨some (pK ag 0),ag,ac,[⟨pa,0,ca,fa,0,0,fc⟩],rfl,fun _=>⟨rfl,hal⟩,hb,rfl,fun i q l _ hq hl=> ?_,fun i j q l m hq hl hm hne _=> ?_⟩
 ·have hi:=(zy.1 hq).1
  have hi0:i=0:=by simp at hi;omega
  subst hi0
  have e1:p=q:=by simpa using hq
  have e2:(⟨pa,0,ca,fa,0,0,fc⟩:K8)=l:=by simpa using hl
  subst e1 e2
  refine ⟨?_,fun h=>by rw [hp] at h;simp at h,fun j q hq=>by rw [hp] at hq;simp at hq,fun j hj=>by rw [hp] at hj;simp at hj,fun h=>by rw [hF] at h;simp at h,fun j x hx=>by rw [hF] at hx;simp at hx⟩
  rw [Nat.zero_mul]
  unfold NT
  rw [hF,hle]
  exact hrow
 ·have hi:=(zy.1 hq).1
  have hj:=(zy.1 hm).1
  simp at hi hj
  omega
theorem fM (i:Nat) (hi:i<8) (w:World):(Instr.index 193 (.agg IS.toArray) (.int .i64 (i:Int))).run Tryz.prog w= .ok .nilIface w:=by
 rw [TJ IS i (by simpa [IS] using hi) rfl w]
 unfold IS
 rw [zl,xw,if_pos hi]
 rfl
theorem Tr (pb:Nat) (w:World) (hf:w.rangeAt pb 65814 IS):
  Calls Tryz.prog 202 #[pq pb 0] w fun e w'=>∃v,e= .returned v/\w'.ownsRow w.heap.size 253 3 v 0 []/\Below w.heap.size w w':=by
 have HF:=AC hf
 obtain ⟨N8,hN8⟩:∃N8,N8=IS:=⟨_,rfl⟩
 have hl:N8.length=8:=by rw [hN8];rfl
 rw [<-hN8] at HF
 have HIX:=AC (show ∀(i:Nat),i<8->∀w:World,(Instr.index 193 (.agg N8.toArray) (.int .i64 (i:Int))).run Tryz.prog w= .ok .nilIface w from fun i hi w=>by rw [hN8];exact fM i hi w)
 have HL:=AC hl
 clear hf hN8 hl
 go_enter Tryz.func202,Tryz.ntmps202
 go_wp2_with (refine wpList_load_mid rfl 193 _ rfl pb 65814 (by rfl) _ _ (AB HF) Tryz.underlying193 rfl (by rw [Qx,AB HL]) ?_)
 go_loopw [3,10] (fun v i wr=>∃k:Nat,k<=8/\i= .int .i64 k/\v= .slice none 0 0/\wr=w) (fun _ i _=>8-(intOf i).toNat)
 case atStart=>exact ⟨0,by omega,rfl,rfl,rfl⟩
 case round=>
  obtain ⟨k,hk,rfl,rfl,rfl⟩:=hrel
  by_cases hk8:k<8
  ·have hk1:(k:Int)<8:=by omega
   have ix:=AB HIX k hk8
   clear hk8
   go_wp2
   exact ⟨⟨k+1,by omega,by simp,by simp⟩,by simp only [intOf];omega⟩
  ·have hk1:¬(k:Int)<8:=by omega
   go_wp2
   go_ret
   exact ⟨_,rfl,World.ownsRow_nil _ _ _ _,zw _ _⟩
end
section
open Go Go.RowKit
theorem Y1 {KR2:World->Nat->Nat->Addr->PK->AP->Prop} {m:Nm} {p:AP} {w:World} (h:He KR2 m p w) (api:EK KR2) (ok:m.Ok) (hst:p.st=0) (hec:(AH p.PS p.pc).2=0->(AH p.PS p.pc).1.op≠24):
  Calls Tryz.prog 23 #[pq m.wb 0,.int .i64 1] w fun e w'=>e= .returned (.bool true)/\He KR2 m (Au p) w'/\C6 m.N m.wb w w':=by
 have hn:=ok.nums
 have hl:=h.row.lt
 obtain ⟨g,cap,aa,ca,hr⟩:=h.ref
 refine (O2 m.wb m.kp m.B m.C m.base m.kb g cap m.gp m.cp m.k p aa m.ga ca w (fun W W'=>KR2 W' m.B m.C m.kp m.P (Au p)/\Gu W W') (h.row.cell (j:=0) rfl) (h.row.cell (j:=1) rfl) (.inr (by omega)) hr hst hec (fun W hb=>api.step W _ _ _ _ _ (h.below api ok hb).prog h.can hst hec (by have:=hb.size;omega))).mono ?_
 rintro e w' ⟨rfl,W,W',W2,hb,⟨hk2,hsp⟩,hkc,hb2,hs⟩
 have s1:=hb.size
 have s2:=hkc.size
 have s3:=hb2.size
 have s4:=hs.os.2.2.2
 have hmove:∀b,b<w.heap.size->b<m.B\/m.C<=b->b≠m.kb->b≠m.gp->b≠m.ga->w'.heap[b]? =w.heap[b]? :=fun b hbl hbo n1 n2 n3=>by
  rw [hs.block b (by omega) n1 n2 n3,hb2.block b (by omega),hkc.block b (by omega) (by omega),hb.block b hbl]
 refine ⟨rfl,⟨?_,h.can.step,GT h.row (hmove _ hl (.inr (by omega)) (by omega) (by omega) (by omega)),?_,?_⟩,?_⟩
 ·exact api.stable _ _ _ _ _ _ _ hk2 (by omega) (fun b hbC=>by rw [hs.block b (by omega) (by omega) (by omega) (by omega),hb2.block b (by omega)])
 ·obtain ⟨aa',ca',hp⟩:=hs.proc
  obtain ⟨v,h1,h2,h3,h4⟩:=hs.ker
  rcases h2.2 with ⟨_,h0⟩|⟨g',cap',cur,rfl,hbg,_⟩
  ·have:=ok.some_
   omega
  ·have n3:g'≠m.gp:=by simpa [Value.ownBlock] using h3
   have n4:g'≠m.ga:=by simpa [Value.ownBlock] using h4
   exact ⟨g',cap',aa',ca',⟨h1,h2⟩,hr.kbl,by have:=hr.bs;omega,hr.pv,hr.ov,hr.cv,hr.cnt,hr.linked,hr.bytes,hp,h.can.step.ok,⟨hr.ne.1,n3.symm,hr.ne.2.2.1,n4.symm⟩,by have:=hr.gl;omega,⟨by omega,by omega,by omega,by omega⟩⟩
 ·refine h.cont.spares (fun x hx q n c vs hq hv=> ?_)
  obtain ⟨n1,n2,n3⟩:=ok.apart x hx q n c hq
  have h1:=hsp _ _ (hv.below hb hv.lt)
  have h2:=h1.below hb2 h1.lt
  exact GT h2 (hs.block q h2.lt n1 n2 n3)
 ·refine ⟨fun b t vs ht hbn hv=>GT hv (hmove b hv.lt (by omega) (by omega) (by omega) (by omega)),fun hN=>⟨hs.os.1.trans (hb2.os.trans (hkc.os.trans hb.os)),hs.os.2.1.trans (hb2.tape.trans (hkc.tape.trans hb.tape)),hs.os.2.2.1.trans (hb2.output.trans (hkc.output.trans hb.output)),by omega,fun b hbn=>hmove b (by omega) (.inl (by omega)) (by omega) (by omega) (by omega)⟩⟩
theorem UC {KR2:World->Nat->Nat->Addr->PK->AP->Prop} {m:Nm} {p:AP} {w:World} (h:He KR2 m p w) (api:EK KR2) (ok:m.Ok) (hst:p.st=2):
  Calls Tryz.prog 23 #[pq m.wb 0,.int .i64 1] w fun e w'=>e= .returned (.bool true)/\He KR2 m p w'/\C6 m.N m.wb w w':=by
 have hn:=ok.nums
 have hl:=h.row.lt
 obtain ⟨g,cap,aa,ca,hr⟩:=h.ref
 refine (PF m.wb m.kp m.B m.C m.base m.kb g cap m.gp m.cp m.k p aa m.ga ca w (fun W W'=>KR2 W' m.B m.C m.kp m.P p/\Gu W W') (h.row.cell (j:=0) rfl) (h.row.cell (j:=1) rfl) (.inr (by omega)) hr hst (fun W hb=>api.stepz W _ _ _ _ _ (h.below api ok hb).prog h.can hst (by have:=hb.size;omega))).mono ?_
 rintro e w' ⟨rfl,W,W',hb,⟨hk2,hsp⟩,hkc,hb2⟩
 have s1:=hb.size
 have s2:=hkc.size
 have s3:=hb2.size
 have hmove:∀b,b<w.heap.size->b<m.B\/m.C<=b->w'.heap[b]? =w.heap[b]? :=fun b hbl hbo=>by
  rw [hb2.block b (by omega),hkc.block b (by omega) (by omega),hb.block b hbl]
 refine ⟨rfl,⟨?_,h.can,GT h.row (hmove _ hl (.inr (by omega))),⟨g,cap,aa,ca,?_⟩,?_⟩,?_⟩
 ·exact api.stable _ _ _ _ _ _ _ hk2 (by omega) (fun b hbC=>by rw [hb2.block b (by omega)])
 ·exact ((hr.keeps (B:=0) (Cl.ofBelow hb)).keeps hkc).keeps (B:=0) (Cl.ofBelow hb2)
 ·refine h.cont.spares (fun x hx q n c vs hq hv=> ?_)
  have h1:=hsp _ _ (hv.below hb hv.lt)
  exact h1.below hb2 h1.lt
 ·refine ⟨fun b t vs ht hbn hv=>GT hv (hmove b hv.lt (by omega)),fun hN=>⟨hb2.os.trans (hkc.os.trans hb.os),hb2.tape.trans (hkc.tape.trans hb.tape),hb2.output.trans (hkc.output.trans hb.output),by omega,fun b hbn=>hmove b (by omega) (.inl (by omega))⟩⟩
def Fe (p:AP):Int:=if p.st=0 then Ha p else 1
theorem UD {KR2:World->Nat->Nat->Addr->PK->AP->Prop} {m:Nm} {p:AP} {w:World} (h:He KR2 m p w) (ok:m.Ok):
  Calls Tryz.prog 11 #[pq m.wb 0,.int .i64 1,.int .i64 1] w fun e w'=>e= .returned (.int .i64 (Fe p))/\Below w.heap.size w w':=by
 obtain ⟨g,cap,aa,ca,hr⟩:=h.ref
 have c5:w.cell? (pK m.kb 5)=some (.slice (some (pK m.gp 0)) 1 m.cp):=by rw [<-hr.pv];exact hr.ker.1.cell rfl
 unfold Fe
 rcases h.can.st with hst|hst
 ·rw [if_pos hst]
  exact RM m.wb m.kb m.gp m.cp p aa m.ga ca w (h.row.cell (j:=1) rfl) c5 hr.proc hr.ok.pid hst hr.ok.cnt hr.ok.pages hr.ok.pc
 ·rw [if_neg (by omega)]
  exact RO m.wb m.kb m.gp m.cp 0 w (h.row.cell (j:=1) rfl) c5 (by have:=hr.proc.row 0 _ rfl;rwa [zq,hr.ok.pid] at this) (by have:=hr.proc.row 2 _ rfl;rwa [zq,hst] at this)
theorem Vy {KR2:World->Nat->Nat->Addr->PK->AP->Prop} {m:Nm} {p:AP} {w:World} (h:He KR2 m p w) (api:EK KR2) (ok:m.Ok):
  Calls Tryz.prog 29 #[pq m.wb 0] w fun e w'=>e= .returned (.bool true)/\Below w.heap.size w w':=by
 have hn:=ok.nums
 have hl:=h.row.lt
 obtain ⟨g,cap,aa,ca,hr⟩:=h.ref
 refine X8 m.wb m.kb (some m.kp) (some (pK m.gp 0)) m.gp m.cp none 0 0 [] [p] w (h.row.cell (j:=0) rfl) (h.row.cell (j:=1) rfl) (by have:=hr.ker.1.cell (j:=5) rfl;rw [hr.pv] at this;exact this) (fun _=>rfl) ⟨fun _=>by omega,fun i q hq=> ?_⟩ (by have:=hr.ker.1.cell (j:=6) rfl;rw [hr.ov] at this;exact this) (fun h=>by simp at h) (fun j v hv=>by simp [Pf] at hv) (by simp) (by simp) (fun q hq=> ?_) hl hr.ker.1.lt (api.procs w _ _ _ _ _ h.prog h.can)
 ·have hi:=(zy.1 hq).1
  have hi0:i=0:=by simp at hi;omega
  subst hi0
  have e:p=q:=by simpa using hq
  subst e
  exact ⟨aa,m.ga,ca,by rw [Nat.zero_mul];exact hr.proc.row,fun h0=>⟨hr.proc.aa h0,hr.gl⟩,hr.proc.pages⟩
 ·have:q=p:=by simpa using hq
  subst this
  exact h.can.api
theorem Vz {KR2:World->Nat->Nat->Addr->PK->AP->Prop} {m:Nm} {p:AP} {w:World} (h:He KR2 m p w) (api:EK KR2) (ok:m.Ok):
  Calls Tryz.prog 30 #[pq m.wb 0] w fun e w'=>e= .returned (.bool true)/\Below w.heap.size w w':=by
 have hn:=ok.nums
 have hl:=h.row.lt
 obtain ⟨g,cap,aa,ca,hr⟩:=h.ref
 obtain ⟨FL,hfl,htl,hfs⟩:=api.files w _ _ _ _ _ h.prog
 have hxs:m.P.xs=m.k.inos.map erase:=by rw [<-ok.toP];rfl
 have hcs:m.P.cs=m.cs:=by rw [<-ok.toP];rfl
 rw [hxs,hcs] at htl
 refine X1 m.wb m.base m.kb g cap (some m.kp) m.k m.cs [p.PS.length] none 0 0 FL w (h.row.cell (j:=0) rfl) (h.row.cell (j:=1) rfl) hl hr.ker h.cont ok.tree (by have:=ok.cnt;omega) ok.ids (by have:=ok.used;omega) hfl (Tj htl) hfs ⟨some (pK m.gp 0),m.cp,by rw [hr.pv];rfl,fun i n hi=> ?_⟩ hr.ov (by simp) (by have:=h.can.ok.cnt;simp;omega) (fun w' hb=> ?_)
 ·have hil:=(zy.1 hi).1
  have hi0:i=0:=by simp at hil;omega
  subst hi0
  have e:p.PS.length=n:=by simpa using hi
  subst e
  exact ⟨m.gp,aa,ca,rfl,by omega,by rw [Nat.zero_mul];exact hr.proc.row 22 _ rfl⟩
 ·have hu:=api.used w' _ _ _ _ _ (h.below api ok hb).prog h.can
  rw [hxs,hcs,zc] at hu
  exact hu
def eL (KR2:World->Nat->Nat->Addr->PK->AP->Prop) (N:Nat) (wb:Nat) (w:World):Prop:=∃m p,Nm.Ok m/\m.wb=wb/\m.N=N/\He KR2 m p w
def gI (KR2:World->Nat->Nat->Addr->PK->AP->Prop) (N:Nat) (wb:Nat) (n:Int) (w:World):Prop:=∃m p,Nm.Ok m/\m.wb=wb/\m.N=N/\He KR2 m p w/\n=Fe p
theorem Y2 (p:AP):Fe p=0\/Fe p=1:=by
 unfold Fe Ha
 split
 ·split
  ·exact .inl rfl
  ·exact .inr rfl
 ·exact .inr rfl
theorem Y3 {p:AP} (h:Fe p=1) (hst:p.st=0):(AH p.PS p.pc).2=0->(AH p.PS p.pc).1.op≠24:=by
 unfold Fe Ha at h
 rw [if_pos hst] at h
 intro h0 h24
 rw [if_pos ⟨h0,h24⟩] at h
 exact absurd h (by decide)
theorem ON {KR2:World->Nat->Nat->Addr->PK->AP->Prop} {m:Nm} {p:AP} {w:World} (h:He KR2 m p w):dn m.wb w:=⟨h.row.cell (j:=2) rfl,h.row.cell (j:=3) rfl,h.row.cell (j:=4) rfl⟩
theorem V0 {KR2:World->Nat->Nat->Addr->PK->AP->Prop} {m:Nm} {p:AP} {w:World} (h:He KR2 m p w) (api:EK KR2) (ok:m.Ok):
  Calls Tryz.prog 12 #[pq m.wb 0,.agg (ET (Fe p)).toArray] w fun e w'=>e= .returned (.bool true)/\(∃q,He KR2 m q w')/\C6 m.N m.wb w w':=by
 refine (bp m.N m.wb (Fe p) (Y2 p) (fun W=>He KR2 m p W/\C6 m.N m.wb w W) (fun W=>(∃q,He KR2 m q W)/\C6 m.N m.wb w W) w ⟨h,fun _ _ _ _ _ hv=>hv,fun _=>zw _ _⟩ (fun W W' hW hb=>⟨hW.1.below api ok hb,hW.2.trans (C6.below hb)⟩) (fun W W' hW hb=>⟨hW.1.imp (fun q hq=>hq.below api ok hb),hW.2.trans (C6.below hb)⟩) (fun _ W hW=>⟨⟨p,hW.1⟩,hW.2⟩) (fun h1 W hW=> ?_) (fun W hW=>ON hW.1) (fun W hW=>hW.1.elim (fun q hq=>ON hq)) (fun W hW=>hW.1.elim (fun q hq=>Vy hq api ok)) (fun W hW=>hW.1.elim (fun q hq=>Vz hq api ok)) (fun W hW=>hW.1.row.lt)).mono (fun e w' he=>⟨he.1,he.2.1,he.2.2⟩)
 rcases hW.1.can.st with hst|hst
 ·refine (Y1 hW.1 api ok hst (Y3 h1 hst)).mono ?_
  rintro e w' ⟨rfl,hB,hK⟩
  exact ⟨rfl,⟨⟨_,hB⟩,hW.2.trans hK⟩,hK⟩
 ·refine (UC hW.1 api ok hst).mono ?_
  rintro e w' ⟨rfl,hB,hK⟩
  exact ⟨rfl,⟨⟨_,hB⟩,hW.2.trans hK⟩,hK⟩
theorem UE {KR2:World->Nat->Nat->Addr->PK->AP->Prop} (api:EK KR2) {N B wb:Nat} {kp:Addr} {P:PK} {W w':World} {k:RK} {cs:List (List Int)} {g cap gp pc gn cn:Nat} (hbt:EY P W w' k cs g cap gp pc gn cn) (hi:Bo P) (hk:KR2 W B W.heap.size kp P (Cj P)) (hb:Below W.heap.size W w') (hwr:AG w' wb 55 (Iz (.pointer (some kp)) (pq (W.heap.size+1) 0))) (hw:W.heap.size+1<wb/\gp<wb/\gn<wb) (hN:N<=B) (hB:B<=W.heap.size):eL KR2 N wb w':=by
 have hxs:P.xs=k.inos.map erase:=by rw [<-hbt.toP];rfl
 have hgp:=hbt.procs.lt gp rfl
 have hgn:=hbt.pages.lt gn rfl
 refine ⟨⟨N,B,W.heap.size,W.heap.size+2,W.heap.size+1,gp,gn,pc,wb,kp,k,cs,P⟩,Cj P,⟨hbt.toP,⟨hN,hB,by show W.heap.size<=W.heap.size+1;omega,by show W.heap.size+1<W.heap.size+2;omega,hgp.1,hgn.1,hw.1,hw.2.1,hw.2.2⟩,fun x hx q n c hq=> ?_,?_,hbt.inos,?_,fun x hx=> ?_,hbt.used⟩,rfl,rfl,⟨api.stable _ _ _ _ _ _ _ hk hb.size (fun b hbl=>hb.block b hbl),⟨T7 hbt.ok (MD hbt _),Tk hbt.ok (J7 hbt.ok.2.2.2.1),.inl rfl⟩,hwr,⟨g,cap,_,cn,T8 hbt hi⟩,hbt.cont⟩⟩
 ·obtain ⟨i,hx⟩:=yo.1 hx
  have hil:=(zy.1 hx).1
  obtain ⟨cc,hc⟩:∃c,cs[i]? =some c:=⟨_,zz (by rw [hbt.cont.1];exact hil)⟩
  rcases hbt.cont.2 i x cc hx hc with ⟨_,h1⟩|⟨_,q',h1,h2⟩
  ·rw [h1] at hq;cases hq
  ·rw [h1] at hq
   have e:q'=q:=by injection hq with hq;injection hq with hq;injection hq
   subst e
   exact ⟨fun e=>hbt.rep.apart.1 _ (e▸h2),fun e=>B8 h2 (Bv hbt.procs) (by decide) (by rw [e];rfl),fun e=>B8 h2 (Bv hbt.pages) (by decide) (by rw [e];rfl)⟩
 ·obtain ⟨x,hx,_⟩:=hbt.inv.2.1
  exact List.length_pos_of_mem hx
 ·refine O7 ?_
  rw [<-hxs]
  exact hi.tree
 ·have h1:=hbt.inv.1 x hx
  have h2:=hbt.last
  show x.id<=1000000
  omega
theorem UF (lp lf lo li lb n:Int) (fa:Option Addr) (fb foff fcap:Nat) (FZ:List AV) (LS:List BN) (w:World) (hn: -9223372036854775808<=n/\n<=9223372036854775807) (hfa:0<FZ.length->fa=some (pK fb foff)/\fb<w.heap.size) (hf:Cz w fb foff FZ LS) (hb:∀f∈FZ,f.path.size<=140737488355328/\f.bytes.length<=140737488355328) (hl:FZ.length<=140737488355328) (hby:∀f∈FZ,AY f.bytes)
  (hg:w.cell? (pK 0 0)=some (.iface 206 (.agg #[pq 6 41]))) (hge:0<w.heap.size) (KR:World->Nat->Addr->PK->Prop) (hst:U7 KR) (KR2:World->Nat->Nat->Addr->PK->AP->Prop) (api:EK KR2)
  (hk2:∀(W:World) (B:Nat) (kp:Addr) (P:PK),Below w.heap.size w W->w.heap.size<=B->KR W B kp P->P.ExecOk [0] 0 At [BI]->KR2 W B W.heap.size kp P (Cj P))
  (hlv:∀W,Below w.heap.size w W->Calls Tryz.prog 4 #[] W fun e w'=>e= .returned (.bool true)/\Below W.heap.size W w')
  (hprog:FZ.length<=100->(FZ.map (fun f=>f.bytes.length)).sum<=200000->∀(w':World) (va:Option Addr) (vb vcap:Nat) (LS':List BN),Below w.heap.size w w'->(0<FZ.length->va=some (pK vb 0)/\vb<w'.heap.size)->Cz w' vb 0 FZ LS'->Calls Tryz.prog 6 #[.agg #[.int .i64 lp,.int .i64 lf,.int .i64 lo,.int .i64 li,.int .i64 lb],.slice va FZ.length vcap] w' (GL lp lf lo li lb FZ KR w')):
  Calls Tryz.prog 3 #[.agg #[.int .i64 lp,.int .i64 lf,.int .i64 lo,.int .i64 li,.int .i64 lb,.slice fa FZ.length fcap],.int .i64 n] w fun e w'=>e= .returned (.bool true)/\Below w.heap.size w w':=by
 have hfm:∀W,Below w.heap.size w W->Cz W fb foff FZ LS:=fun W h=>⟨hf.len,fun i f l hi hli=>by
  obtain ⟨x0,x1,x2,x3,x4⟩:=hf.at_ i f l hi hli
  have h0:0<FZ.length:=by have:=(zy.1 hi).1;omega
  have hfb:=(hfa h0).2
  refine ⟨by rw [h.cell (p:=(pK fb (foff+i*3))) hfb];exact x0,by rw [h.cell (p:=(pK fb (foff+i*3+1))) hfb];exact x1,by rw [h.cell (p:=(pK fb (foff+i*3+2))) hfb];exact x2,fun h0=>⟨(x3 h0).1,za (x3 h0).2 h.size⟩,fun j hj=> ?_⟩
  rw [h.cell (p:=(pK l.q (l.o+j))) (x3 (by omega)).2];exact x4 j hj⟩
 refine UB lp lf lo li lb n _ w hn hlv (fun c sa sb sc W hc hbW hsa hs=> ?_)
 refine UA W.heap.size _ lp lf lo li lb _ sa sb sc c (Ge FZ) (eL KR2 W.heap.size) (gI KR2 W.heap.size) W rfl hsa hs hc (fun h0=> ?_) (zx _) (fun W2 h2=> ?_) (fun hsm W2 h2=> ?_) ?_ ?_ ?_ ?_ ?_ ?_
 ·obtain ⟨vs,h1,_⟩:=hs h0
  exact h1.lt
 ·have h3:=hbW.trans (h2.mono hbW.size)
  exact Rf lp lf lo li lb fa fb foff fcap FZ sa sb sc c W2 (fun h=>(hfa h).1) (fun h=>za (hfa h).2 h3.size) (hfm W2 h3).in hb hl hsa (fun h0=>(hs h0).below h2) hc
 ·have h3:=hbW.trans (h2.mono hbW.size)
  obtain ⟨hn1,hs1⟩:=Yc hsm
  refine (Z9 lp lf lo li lb fa fb foff fcap FZ LS W2 (fun h=>⟨(hfa h).1,za (hfa h).2 h3.size⟩) (hfm W2 h3) hn1 hs1 (fun f hf=>⟨by have:=(hb f hf).1;unfold maxLen;omega,hby f hf⟩) (by rw [h3.cell (p:=(pK 0 0)) hge];exact hg) (za hge h3.size) KR hst (fun w' va vb vcap LS' h4 h5 h6=>hprog hn1 hs1 w' va vb vcap LS' (h3.trans (h4.mono h3.size)) h5 h6)).mono ?_
  rintro e w' ⟨hb4,(⟨x,wp,hx,rfl⟩|⟨hgood,wb,B,kp,Wr,k,cs,g,cap,gp,pc,gn,cn,rfl,hwb,hwr,hkr,hWs,hbt,hkW,hbW',hwb2,hB1,hB2⟩)⟩
  ·exact ⟨_,x,rfl,hb4,fun h0=>absurd h0 hx⟩
  ·refine ⟨_,0,rfl,hb4,fun _=>⟨wb,rfl,?_⟩⟩
   have hW0:Below W2.heap.size W2 Wr:=⟨hbW'.os.symm.trans hb4.os,hbW'.tape.symm.trans hb4.tape,hbW'.output.symm.trans hb4.output,hWs,fun b hb=>(hbW'.block b (by omega)).symm.trans (hb4.block b hb)⟩
   have h5:=h3.trans (hW0.mono h3.size)
   exact UE api hbt (Si lp lf lo li lb FZ) (hk2 Wr B kp _ h5 (zh h3.size hB1) hkW hbt.ok) hbW' hwr hwb2 (zh h2.size hB1) hB2
 ·rintro wb W1 W2 ⟨m,p,ok,rfl,hN,hB⟩ hb1
  exact ⟨m,p,ok,rfl,hN,hB.below api ok hb1⟩
 ·rintro wb x W1 W2 ⟨m,p,ok,rfl,hN,hB,hx⟩ hb1
  exact ⟨m,p,ok,rfl,hN,hB.below api ok hb1,hx⟩
 ·rintro wb W1 ⟨m,p,ok,rfl,hN,hB⟩
  exact ON hB
 ·rintro wb W1 ⟨m,p,ok,rfl,hN,hB⟩
  refine (UD hB ok).mono ?_
  rintro e w' ⟨rfl,hb1⟩
  exact ⟨_,rfl,⟨m,p,ok,rfl,hN,hB.below api ok hb1,rfl⟩,hb1⟩
 ·rintro wb x W1 ⟨m,p,ok,rfl,hN,hB,rfl⟩
  refine (V0 hB api ok).mono ?_
  rintro e w' ⟨rfl,⟨q,hq⟩,hK⟩
  exact ⟨rfl,⟨m,q,ok,rfl,hN,hq⟩,by rw [<-hN];exact hK⟩
 ·rintro wb x W1 y v ⟨m,p,ok,rfl,hN,hB,hx⟩ hwy hy
  exact ⟨m,p,ok,rfl,hN,hB.set api ok hy hwy 2 v,hx⟩
end
end Go.Proofs.YtdchgbmliojoiaaGreatDoor
