import Derived.Test.YtdchgbmliojoiaaGreatDoorG29
import Derived.Test.YtdchgbmliojoiaaGreatDoorG35
import Derived.Test.YtdchgbmliojoiaaGreatDoorG32
set_option maxRecDepth 100000
set_option maxHeartbeats 4000000
set_option linter.unusedVariables false
set_option linter.unusedSimpArgs false
namespace Go.Proofs.YtdchgbmliojoiaaGreatDoor
section
open Go Go.RowKit
theorem FM {P:Program} {md:Region.Mode} {ops:Array Oper} {Q:Exit->Act->World->Prop} {S:World->Prop} {fuel:Nat} {listed:Array Bool} {a:Act} {w:World} {i:Nat} {o:Oper} {rs:List Nat} (hi:ops[i]? =some o) (hgd:o.guard=none) (ty:TypeId) (x y:Operand) (ho:o.op= .store ty x y)
  (g off:Nat) (cs:List Value) (hx:a.eval x= pq g off) (hy:a.eval y= .agg cs.toArray)
  (t:TypeId) (old:List Value) (hg:AG w g t old) (hsz:(P.info? ty).map (·.size)=some cs.length) (hfit:off+cs.length<=old.length) (h1:∀v∈cs,v.oneCell'=true) (hd:o.dst=none)
  (h:∀w',Hid (AG w' g t (splice old off cs))->Hid (w.grownBy w' (some g))->S w'/\(S w'->wpAnyH P md ops Q S fuel (listed.setIfInBounds i true) a w')) (hs:AllReadyH P md ops Q S fuel listed a w rs):
  AllReadyH P md ops Q S fuel listed a w (i::rs):=
 AllReadyH.cons hi (fun K hK=>MQ hgd ty x y ho g off cs hx hy t old hg hsz hfit h1 hd (fun w' a1 a2=>hK.out _ _ (h w' a1 a2).1 (h w' a1 a2).2)) hs
theorem X9 (kb pb:Nat) (st:Int) (w:World) (h:w.cell? (pK pb 65811)=some (.int .i64 st)) (hst:st≠1):
  Calls Tryz.prog 200 #[pq kb 7,pq pb 0] w fun e w'=>e= .returned (.int .i64 0)/\w'=w:=by
 have hq:(st==1)=false:=by simpa using hst
 go_enter Tryz.func200,Tryz.ntmps200
 go_wp2
 go_ret
 exact ⟨rfl,rfl⟩
theorem YA:∀args w,(callFunc 200 args).run Tryz.prog w= .ok (.enter 200 args) w:=enters_of Tryz.func200 (by kernel_rfl) rfl
theorem TL:∀args w,(callFunc 201 args).run Tryz.prog w= .ok (.enter 201 args) w:=enters_of Tryz.func201 (by kernel_rfl) rfl
theorem Qy:∀args w,(callFunc 202 args).run Tryz.prog w= .ok (.enter 202 args) w:=enters_of Tryz.func202 (by kernel_rfl) rfl
theorem I2 {P:Program} {ops:Array Oper} {o:Oper} {a:Act} {w:World} {K:Act->World->Prop} {Q:Exit->Act->World->Prop} {E:Prop} (hgd:o.guard=none) (f n1:Nat) (t1:TypeId)
  (ho:o.op= .call {callee:= .value (.func f),args:=#[.tmp n1],argTypes:=#[t1]}) (v1:Value) (h1:a.eval (.tmp n1)=v1)
  (he:∀args w,(callFunc f args).run P w= .ok (.enter f args) w) (post:Ending->World->Prop) (hp:∀e w',post e w'->∃r,e= .returned r) (hc:Calls P f #[v1] w post) (d:Option Tmp) (hd:o.dst=d)
  (h:∀r w',post (.returned r) w'->K (a.put d r) w'):
  if Region.wanted o (yielded ops a.tmps)=true then Oper.wp P o a w K Q else E:=by
 have hw:Region.wanted o (yielded ops a.tmps)=true:=by simp [Region.wanted,hgd]
 have h1':a.tmps[n1]?.getD undef=v1:=by rw [<-h1];simp [go_sem]
 rw [if_pos hw]
 subst hd
 unfold Oper.wp
 simp [execOp,ho,resolve,invoke,h1',Result.andThen,go_sem,he]
 refine hc.mono ?_
 intro e w' hpe
 obtain ⟨r,rfl⟩:=hp e w' hpe
 have:=h r w' hpe
 simpa [go_sem] using this
theorem VB (pid par st su le pc r0 r1 r2 r3 r4 r5 r6 r7 r8 r9 r10 r11 r12 r13 r14 r15:Int) (pa fa:Option Addr) (pn pk fn fk:Nat) (w:World):(Instr.build 163 #[(0,.int .i64 pid),(1,.int .i64 par),(2,.int .i64 st),(3,.int .i64 su),(4,.int .i64 le),(5,.int .u64 pc),(6,.agg (C8 [r0,r1,r2,r3,r4,r5,r6,r7,r8,r9,r10,r11,r12,r13,r14,r15]).toArray),(7,.slice pa pn pk),(8,.slice fa fn fk)]).run Tryz.prog w= .ok (.agg (DJ pid par st su le pc [r0,r1,r2,r3,r4,r5,r6,r7,r8,r9,r10,r11,r12,r13,r14,r15] (.slice pa pn pk) (.slice fa fn fk)).toArray) w:=by kernel_rfl
theorem TM (pid par st su le pc:Int) (R:List Int) (hR:R.length=16) (pa fa:Option Addr) (pn pk fn fk:Nat) (w:World):(Instr.build 163 #[(0,.int .i64 pid),(1,.int .i64 par),(2,.int .i64 st),(3,.int .i64 su),(4,.int .i64 le),(5,.int .u64 pc),(6,.agg (C8 R).toArray),(7,.slice pa pn pk),(8,.slice fa fn fk)]).run Tryz.prog w= .ok (.agg (DJ pid par st su le pc R (.slice pa pn pk) (.slice fa fn fk)).toArray) w:=by
 rw [Zr hR]
 exact VB _ _ _ _ _ _ _ _ _ _ _ _ _ _ _ _ _ _ _ _ _ _ _ _ _ _ _ _ w
theorem FN {E:Int} {R:List Int} {SP:List Value} {pid par st su wk:Int} {fds:List Value} (hR:R.length=16) (hS:SP.length=65792) (j:Nat) (v:Value) (h:([.int .i64 pid,.int .i64 par,.int .i64 st,.int .i64 su,.int .i64 wk]++fds)[j]? =some v):(AZ E R SP pid par st su wk fds)[65809+j]? =some v:=by
 have hc:=Bz (E:=E) hR hS
 unfold AZ
 rw [zo (by omega),hc,yj]
 exact h
theorem TN {E:Int} {R:List Int} {SP:List Value} {pid par st su wk:Int} {fds:List Value} (hR:R.length=16) (hS:SP.length=65792) (j:Nat) (v:Value) (h:(C8 R)[j]? =some v):(AZ E R SP pid par st su wk fds)[1+j]? =some v:=by
 have hj:=(zy.1 h).1
 have hj:j<16:=by simpa [C8,hR] using hj
 have hc:=Bz (E:=E) hR hS
 unfold AZ
 rw [zp (by omega)]
 unfold Cg
 rw [zp (by simp [hR];omega),Nat.add_comm,List.getElem?_cons_succ]
 exact h
theorem LG {E:Int} {R:List Int} {SP:List Value} {pid par st su wk:Int} {fds:List Value} (hR:R.length=16) (hS:SP.length=65792) (j:Nat) (v:Value) (h:SP[j]? =some v):(AZ E R SP pid par st su wk fds)[17+j]? =some v:=by
 have hj:=(zy.1 h).1
 have hc:=Bz (E:=E) hR hS
 unfold AZ
 rw [zp (by omega)]
 unfold Cg
 have h1:(Value.int .u64 E::R.map (Value.int .u64)).length=17:=by simp [hR]
 rw [zo (by omega),h1,yj]
 exact h
theorem TO {w:World} {base:Nat} {e:TypeId} {size:Nat} {v:Value} {n:Nat} {xs:List Value} (h:w.ownsRow base e size v n xs):∃pa c,v= .slice pa n c/\(0<n->∃g,pa=some (pK g 0))/\∀a,pa=some a->base<=a.block/\a.block<w.heap.size:=by
 have hlt:=h.lt
 obtain ⟨_,h|⟨g,cap,cur,h1,h2,h3,_⟩⟩:=h
 ·obtain ⟨rfl,rfl⟩:=h
  exact ⟨none,0,rfl,fun h=>by omega,fun a h=>by cases h⟩
 ·refine ⟨some (pK g 0),cap,h1,fun _=>⟨g,rfl⟩,fun a ha=> ?_⟩
  cases ha
  exact ⟨h2,(Array.getElem?_eq_some_iff.1 h3).1⟩
theorem JL {pa:Option Addr} {n c H:Nat} (h:∀a,pa=some a->a.block≠H):(Value.slice pa n c).ownBlock≠some H:=by
 cases pa with
 |none=>simp [Value.ownBlock]
 |some a=>simpa [Value.ownBlock] using h a rfl
def Nk (pid par st su E:Int) (R:List Int) (PS:List Pg) (m:Nat) (FR:List Value) (w:World) (e:Ending) (w':World):Prop:=
 ∃pa ca fa fc,e= .returned (.agg (DJ pid par st su 0 E R (.slice pa PS.length ca) (.slice fa m fc)).toArray)/\Below w.heap.size w w'/\
  w'.ownsRow w.heap.size 166 258 (.slice pa PS.length ca) PS.length (BG PS)/\w'.ownsRow w.heap.size 253 3 (.slice fa m fc) m FR/\∀a b,pa=some a->fa=some b->a.block≠b.block
theorem VC:(Tryz.prog.info? 76).map (·.size)=some 16:=by kernel_rfl
theorem Ly (pid par st su le pc:Int) (R:List Int) (pa fa:Option Addr) (pn pk fn fk:Nat):∀v∈DJ pid par st su le pc R (.slice pa pn pk) (.slice fa fn fk),v.oneCell'=true:=by
 intro v hv
 simp only [DJ,List.mem_cons,List.not_mem_nil,or_false] at hv
 rcases hv with rfl|rfl|rfl|rfl|rfl|rfl|rfl|rfl|rfl|rfl|rfl|rfl|rfl|rfl|rfl|rfl|rfl|rfl|rfl|rfl|rfl|rfl|rfl|rfl<;>rfl
def J0:List Value:=DJ 0 0 0 0 0 0 [] (.slice none 0 0) (.slice none 0 0)
theorem aD (kb pb:Nat) (E:Int) (R:List Int) (PS:List Pg) (pid par st su wk:Int) (xs:List Value) (m:Nat) (FR:List Value) (w:World) (hp:AG w pb 195 (AZ E R (Af PS) pid par st su wk xs)) (hR:R.length=16) (hok:As PS) (hst:st≠1) (hfd:∀w':World,w'.rangeAt pb 65814 xs->Calls Tryz.prog 202 #[pq pb 0] w' fun e w2=>∃v,e= .returned v/\w2.ownsRow w'.heap.size 253 3 v m FR/\Below w'.heap.size w' w2):
  Calls Tryz.prog 161 #[pq kb 0,pq pb 0] w (Nk pid par st su E R PS m FR w):=by
 have hSl:(Af PS).length=65792:=BD (fun q hq=>(hok.each q hq).2.2.2.2)
 obtain ⟨ROW,hROW⟩:∃ROW,ROW=AZ E R (Af PS) pid par st su wk xs:=⟨_,rfl⟩
 have x1:ROW[65809]? =some (.int .i64 pid):=by rw [hROW];exact FN hR hSl 0 _ rfl
 have x2:ROW[65810]? =some (.int .i64 par):=by rw [hROW];exact FN hR hSl 1 _ rfl
 have x3:ROW[65811]? =some (.int .i64 st):=by rw [hROW];exact FN hR hSl 2 _ rfl
 have x4:ROW[65812]? =some (.int .i64 su):=by rw [hROW];exact FN hR hSl 3 _ rfl
 have x5:ROW[0]? =some (.int .u64 E):=by rw [hROW];rfl
 have x6:∀(w':World),AG w' pb 195 ROW->w'.rangeAt pb 1 (C8 R):=fun w' h j v hv=>h.cell (by rw [hROW];exact TN hR hSl j v hv)
 have x7:∀(w':World),AG w' pb 195 ROW->w'.rangeAt pb 17 (Af PS):=fun w' h j v hv=>h.cell (by rw [hROW];exact LG hR hSl j v hv)
 have x8:∀(w':World),AG w' pb 195 ROW->w'.rangeAt pb 65814 xs:=fun w' h j v hv=>h.cell (by rw [hROW,show 65814+j=65809+(5+j) by omega];refine FN hR hSl _ _ ?_;rw [zo (by simp)];simpa using hv)
 rw [<-hROW] at hp
 obtain ⟨RR,hRR⟩:∃RR,RR=C8 R:=⟨_,rfl⟩
 have hRl:RR.length=16:=by rw [hRR];simp [C8,hR]
 have R1:=AC (show ∀w':World,AG w' pb 195 ROW->(Instr.loadAt 3 (pq pb 65809)).run Tryz.prog w'= .ok (.int .i64 pid) w' from fun w' h=>by
  have d:=h.cell x1
  clear h hp x1 x2 x3 x4 x5 x6 x7 x8 hROW hSl
  go_simp)
 have R2:=AC (show ∀w':World,AG w' pb 195 ROW->(Instr.loadAt 3 (pq pb 65810)).run Tryz.prog w'= .ok (.int .i64 par) w' from fun w' h=>by
  have d:=h.cell x2
  clear h hp x1 x2 x3 x4 x5 x6 x7 x8 hROW hSl
  go_simp)
 have R3:=AC (show ∀w':World,AG w' pb 195 ROW->(Instr.loadAt 159 (pq pb 65811)).run Tryz.prog w'= .ok (.int .i64 st) w' from fun w' h=>by
  have d:=h.cell x3
  clear h hp x1 x2 x3 x4 x5 x6 x7 x8 hROW hSl
  go_simp)
 have R4:=AC (show ∀w':World,AG w' pb 195 ROW->(Instr.loadAt 3 (pq pb 65812)).run Tryz.prog w'= .ok (.int .i64 su) w' from fun w' h=>by
  have d:=h.cell x4
  clear h hp x1 x2 x3 x4 x5 x6 x7 x8 hROW hSl
  go_simp)
 have R5:=AC (show ∀w':World,AG w' pb 195 ROW->(Instr.loadAt 75 (pq pb 0)).run Tryz.prog w'= .ok (.int .u64 E) w' from fun w' h=>by
  have d:=h.cell x5
  clear h hp x1 x2 x3 x4 x5 x6 x7 x8 hROW hSl
  go_simp)
 have R6:=AC (show ∀w':World,AG w' pb 195 ROW->w'.rangeAt pb 1 RR from fun w' h=>by rw [hRR];exact x6 w' h)
 have R7:=AC (show (Tryz.prog.info? 76).map (·.size)=some RR.length from by rw [VC,hRl])
 have HLF:=AC (show ∀w':World,AG w' pb 195 ROW->Calls Tryz.prog 200 #[pq kb 7,pq pb 0] w' fun e w2=>e= .returned (.int .i64 0)/\w2=w' from fun w' h=>X9 kb pb st w' (h.cell x3) hst)
 have HPG:=AC (show ∀w':World,AG w' pb 195 ROW->Calls Tryz.prog 201 #[pq pb 17] w' fun e w2=>∃v,e= .returned v/\w2.ownsRow w'.heap.size 166 258 v PS.length (BG PS)/\Below w'.heap.size w' w2 from fun w' h=>Nj pb 17 PS w' hok (x7 w' h) h.lt)
 have HFD:=AC (show ∀w':World,AG w' pb 195 ROW->Calls Tryz.prog 202 #[pq pb 0] w' fun e w2=>∃v,e= .returned v/\w2.ownsRow w'.heap.size 253 3 v m FR/\Below w'.heap.size w' w2 from fun w' h=>hfd w' (x8 w' h))
 have RB:=AC (show ∀(pa fa:Option Addr) (pn pk fn fk:Nat) (w':World),(Instr.build 163 #[(0,.int .i64 pid),(1,.int .i64 par),(2,.int .i64 st),(3,.int .i64 su),(4,.int .i64 0),(5,.int .u64 E),(6,.agg RR.toArray),(7,.slice pa pn pk),(8,.slice fa fn fk)]).run Tryz.prog w'= .ok (.agg (DJ pid par st su 0 E R (.slice pa pn pk) (.slice fa fn fk)).toArray) w' from fun pa fa pn pk fn fk w'=>by rw [hRR];exact TM pid par st su 0 E R hR pa fa pn pk fn fk w')
 obtain ⟨W0,hW0⟩:∃W0,W0=w.alloc (.cells J0.toArray 163):=⟨_,rfl⟩
 have hb0:Below w.heap.size w W0:=by rw [hW0];exact (zw _ _).alloc (zx _) _
 have hn0:AG W0 w.heap.size 163 J0:=by rw [hW0];exact AG.new w 163 _
 have hp0:=hp.below hb0 hp.lt
 have hpl:pb<w.heap.size:=hp.lt
 have HW0:=AC hW0
 have HB0:=AC hb0
 have HN0:=AC hn0
 have HP0:=AC hp0
 have hs0:w.heap.size<W0.heap.size:=hn0.lt
 clear hp hp0 x1 x2 x3 x4 x5 x6 x7 x8 hROW hSl hRR hRl hok hW0 hb0 hn0 hR hst hfd
 go_enter Tryz.func161,Tryz.ntmps161
 go_upto_region 1 with fail
 have HW0':=AC (show w.alloc (Obj.cells #[.int .i64 0,.int .i64 0,.int .i64 0,.int .i64 0,.int .i64 0,.int .u64 0,.int .u64 0,.int .u64 0,.int .u64 0,.int .u64 0,.int .u64 0,.int .u64 0,.int .u64 0,.int .u64 0,.int .u64 0,.int .u64 0,.int .u64 0,.int .u64 0,.int .u64 0,.int .u64 0,.int .u64 0,.int .u64 0,.slice none 0 0,.slice none 0 0] 163)=W0 from (AB HW0).symm)
 rw [AB HW0']
 obtain ⟨H,hH⟩:∃H,H=w.heap.size:=⟨_,rfl⟩
 rw [<-hH]
 refine BA ?_
 intro A hA
 have e0:A.eval (.tmp 0)= pq kb 0:=by rw [hA];rfl
 have e1:A.eval (.tmp 1)= pq pb 0:=by rw [hA];rfl
 have e4:A.eval (.tmp 4)= pq H 0:=by rw [hA];rfl
 have esz:A.tmps.size=44:=by rw [hA];rfl
 have HA:=AC hA
 clear hA
 refine wp_region_held_drew (S:=fun w'=>AG w' pb 195 ROW) (by kernel_rfl) ((AB HP0).heap rfl) (fun hS=> ?_)
 refine tk 0 (some 5) rfl rfl (by kernel_rfl) (fun _ _ _=>id) (AK rfl _ rfl (pq pb 0) (by simp [AF,AE,esz,e0,e1])) hS ?_
 refine tk 1 (some 6) rfl rfl (by kernel_rfl) (fun _ _ _=>id) (AX rfl _ rfl (pK pb 0) (by simp [AF,AE,esz,e0,e1])) hS ?_
 refine tk 2 (some 7) rfl rfl (by kernel_rfl) (fun _ _ _=>id) (AO rfl _ _ _ rfl (pq pb 0) (by simp [AF,AE,esz,e0,e1]) (pq pb 65809) (fun w'=>by go_simp)) hS ?_
 refine tk 3 (some 8) rfl rfl (by kernel_rfl) (fun _ _ _=>id) (AQ rfl _ _ rfl (pK pb 65809) (by simp [AF,AE,esz,e0,e1]) (.int .i64 pid) (AB R1)) hS ?_
 refine tk 4 (some 9) rfl rfl (by kernel_rfl) (fun _ _ _=>id) (AK rfl _ rfl (pq pb 0) (by simp [AF,AE,esz,e0,e1])) hS ?_
 refine tk 5 (some 10) rfl rfl (by kernel_rfl) (fun _ _ _=>id) (AX rfl _ rfl (pK pb 0) (by simp [AF,AE,esz,e0,e1])) hS ?_
 refine tk 6 (some 11) rfl rfl (by kernel_rfl) (fun _ _ _=>id) (AO rfl _ _ _ rfl (pq pb 0) (by simp [AF,AE,esz,e0,e1]) (pq pb 65810) (fun w'=>by go_simp)) hS ?_
 refine tk 7 (some 12) rfl rfl (by kernel_rfl) (fun _ _ _=>id) (AQ rfl _ _ rfl (pK pb 65810) (by simp [AF,AE,esz,e0,e1]) (.int .i64 par) (AB R2)) hS ?_
 refine tk 8 (some 13) rfl rfl (by kernel_rfl) (fun _ _ _=>id) (AK rfl _ rfl (pq pb 0) (by simp [AF,AE,esz,e0,e1])) hS ?_
 refine tk 9 (some 14) rfl rfl (by kernel_rfl) (fun _ _ _=>id) (AX rfl _ rfl (pK pb 0) (by simp [AF,AE,esz,e0,e1])) hS ?_
 refine tk 10 (some 15) rfl rfl (by kernel_rfl) (fun _ _ _=>id) (AO rfl _ _ _ rfl (pq pb 0) (by simp [AF,AE,esz,e0,e1]) (pq pb 65811) (fun w'=>by go_simp)) hS ?_
 refine tk 11 (some 16) rfl rfl (by kernel_rfl) (fun _ _ _=>id) (AQ rfl _ _ rfl (pK pb 65811) (by simp [AF,AE,esz,e0,e1]) (.int .i64 st) (AB R3)) hS ?_
 refine tk 12 (some 17) rfl rfl (by kernel_rfl) (fun _ _ _=>id) (AK rfl _ rfl (pq pb 0) (by simp [AF,AE,esz,e0,e1])) hS ?_
 refine tk 13 (some 18) rfl rfl (by kernel_rfl) (fun _ _ _=>id) (AX rfl _ rfl (pK pb 0) (by simp [AF,AE,esz,e0,e1])) hS ?_
 refine tk 14 (some 19) rfl rfl (by kernel_rfl) (fun _ _ _=>id) (AO rfl _ _ _ rfl (pq pb 0) (by simp [AF,AE,esz,e0,e1]) (pq pb 65812) (fun w'=>by go_simp)) hS ?_
 refine tk 15 (some 20) rfl rfl (by kernel_rfl) (fun _ _ _=>id) (AQ rfl _ _ rfl (pK pb 65812) (by simp [AF,AE,esz,e0,e1]) (.int .i64 su) (AB R4)) hS ?_
 refine tk 16 (some 21) rfl rfl (by kernel_rfl) (fun _ _ _=>id) (AK rfl _ rfl (pq kb 0) (by simp [AF,AE,esz,e0,e1])) hS ?_
 refine tk 17 (some 22) rfl rfl (by kernel_rfl) (fun _ _ _=>id) (AX rfl _ rfl (pK kb 0) (by simp [AF,AE,esz,e0,e1])) hS ?_
 refine tk 18 (some 23) rfl rfl (by kernel_rfl) (fun _ _ _=>id) (AO rfl _ _ _ rfl (pq kb 0) (by simp [AF,AE,esz,e0,e1]) (pq kb 7) (fun w'=>by go_simp)) hS ?_
 refine tk 19 (some 24) rfl rfl (by kernel_rfl) (fun _ _ _=>id) (AK rfl _ rfl (pq pb 0) (by simp [AF,AE,esz,e0,e1])) hS ?_
 refine tk 21 (some 26) rfl rfl (by kernel_rfl) (fun _ _ _=>id) (AK rfl _ rfl (pq pb 0) (by simp [AF,AE,esz,e0,e1])) hS ?_
 refine tk 22 (some 27) rfl rfl (by kernel_rfl) (fun _ _ _=>id) (AX rfl _ rfl (pK pb 0) (by simp [AF,AE,esz,e0,e1])) hS ?_
 refine tk 23 (some 28) rfl rfl (by kernel_rfl) (fun _ _ _=>id) (AO rfl _ _ _ rfl (pq pb 0) (by simp [AF,AE,esz,e0,e1]) (pq pb 0) (fun w'=>by go_simp)) hS ?_
 refine tk 24 (some 29) rfl rfl (by kernel_rfl) (fun _ _ _=>id) (AO rfl _ _ _ rfl (pq pb 0) (by simp [AF,AE,esz,e0,e1]) (pq pb 0) (fun w'=>by go_simp)) hS ?_
 refine tk 25 (some 30) rfl rfl (by kernel_rfl) (fun _ _ _=>id) (AQ rfl _ _ rfl (pK pb 0) (by simp [AF,AE,esz,e0,e1]) (.int .u64 E) (AB R5)) hS ?_
 refine tk 26 (some 31) rfl rfl (by kernel_rfl) (fun _ _ _=>id) (AK rfl _ rfl (pq pb 0) (by simp [AF,AE,esz,e0,e1])) hS ?_
 refine tk 27 (some 32) rfl rfl (by kernel_rfl) (fun _ _ _=>id) (AX rfl _ rfl (pK pb 0) (by simp [AF,AE,esz,e0,e1])) hS ?_
 refine tk 28 (some 33) rfl rfl (by kernel_rfl) (fun _ _ _=>id) (AO rfl _ _ _ rfl (pq pb 0) (by simp [AF,AE,esz,e0,e1]) (pq pb 0) (fun w'=>by go_simp)) hS ?_
 refine tk 29 (some 34) rfl rfl (by kernel_rfl) (fun _ _ _=>id) (AO rfl _ _ _ rfl (pq pb 0) (by simp [AF,AE,esz,e0,e1]) (pq pb 1) (fun w'=>by go_simp)) hS ?_
 refine tk 30 (some 35) rfl rfl (by kernel_rfl) (fun _ _ _=>id) (yieldsIf_load_mid (by simp [Region.wanted]) 76 _ rfl pb 1 (by simp [AF,AE,esz,e0,e1]) RR _ (AB R6) Tryz.underlying76 rfl (AB R7)) hS ?_
 refine tk 31 (some 36) rfl rfl (by kernel_rfl) (fun _ _ _=>id) (AK rfl _ rfl (pq pb 0) (by simp [AF,AE,esz,e0,e1])) hS ?_
 refine tk 32 (some 37) rfl rfl (by kernel_rfl) (fun _ _ _=>id) (AX rfl _ rfl (pK pb 0) (by simp [AF,AE,esz,e0,e1])) hS ?_
 refine tk 33 (some 38) rfl rfl (by kernel_rfl) (fun _ _ _=>id) (AO rfl _ _ _ rfl (pq pb 0) (by simp [AF,AE,esz,e0,e1]) (pq pb 0) (fun w'=>by go_simp)) hS ?_
 refine tk 34 (some 39) rfl rfl (by kernel_rfl) (fun _ _ _=>id) (AO rfl _ _ _ rfl (pq pb 0) (by simp [AF,AE,esz,e0,e1]) (pq pb 17) (fun w'=>by go_simp)) hS ?_
 refine tk 36 (some 41) rfl rfl (by kernel_rfl) (fun _ _ _=>id) (AK rfl _ rfl (pq pb 0) (by simp [AF,AE,esz,e0,e1])) hS ?_
 refine rdy [20] (by kernel_rfl) (AllReadyH.cons rfl (fun K hK=> ?_) AllReadyH.nil)
 refine Hx rfl 200 23 24 _ _ rfl (pq kb 7) (pq pb 0) (by simp [AF,AE,esz,e0,e1]) (by simp [AF,AE,esz,e0,e1]) YA _ (.int .i64 0) (fun e w' h=>h.1) (AB HLF _ hS) (some 25) rfl ?_
 rintro w1 ⟨_,hw1⟩
 subst hw1
 refine hK.out _ _ hS (fun hS1=> ?_)
 clear hK K
 refine rdy [35] (by kernel_rfl) (AllReadyH.cons rfl (fun K hK=> ?_) AllReadyH.nil)
 refine I2 rfl 201 39 _ rfl (pq pb 17) (by simp [AF,AE,esz,e0,e1]) TL _ (fun e w' ⟨v,h,_⟩=>⟨v,h⟩) (AB HPG _ hS) (some 40) rfl ?_
 rintro r2 w2 ⟨v2,hv2,ho2,hb2⟩
 have hv2:r2=v2:=by injection hv2
 subst hv2
 obtain ⟨ga,ca,hv2, -,hga⟩:=TO ho2
 subst hv2
 have hb2:Below W0.heap.size W0 w2:=⟨hb2.os,hb2.tape,hb2.output,hb2.size,hb2.block⟩
 have ho2:w2.ownsRow W0.heap.size 166 258 (.slice ga PS.length ca) PS.length (BG PS):=ho2
 have hga:∀a,ga=some a->W0.heap.size<=a.block/\a.block<w2.heap.size:=hga
 have hS2:AG w2 pb 195 ROW:=(AB HP0).below hb2 (by omega)
 refine hK.out _ _ hS2 (fun hS2'=> ?_)
 clear hK K
 refine rdy [37] (by kernel_rfl) (AllReadyH.cons rfl (fun K hK=> ?_) AllReadyH.nil)
 refine I2 rfl 202 41 _ rfl (pq pb 0) (by simp [AF,AE,esz,e0,e1]) Qy _ (fun e w' ⟨v,h,_⟩=>⟨v,h⟩) (AB HFD _ hS2) (some 42) rfl ?_
 rintro r3 w3 ⟨v3,hv3,ho3,hb3⟩
 have hv3:r3=v3:=by injection hv3
 subst hv3
 obtain ⟨fg,fc,hv3, -,hfg⟩:=TO ho3
 subst hv3
 have hs2:=hb2.size
 have hb03:Below W0.heap.size W0 w3:=hb2.trans (hb3.mono hs2)
 have hS3:AG w3 pb 195 ROW:=(AB HP0).below hb03 (by omega)
 refine hK.out _ _ hS3 (fun hS3'=> ?_)
 clear hK K
 obtain ⟨AR,hAR⟩:∃AR,AR=DJ pid par st su 0 E R (.slice ga PS.length ca) (.slice fg m fc):=⟨_,rfl⟩
 have hARl:AR.length=24:=by rw [hAR];rfl
 have hAR1:∀v∈AR,v.oneCell'=true:=by rw [hAR];exact Ly _ _ _ _ _ _ _ _ _ _ _ _ _
 refine tk 38 (some 43) rfl rfl (by kernel_rfl) (fun _ _ _=>id) (E4 rfl _ _ rfl #[(0,.int .i64 pid),(1,.int .i64 par),(2,.int .i64 st),(3,.int .i64 su),(4,.int .i64 0),(5,.int .u64 E),(6,.agg RR.toArray),(7,.slice ga PS.length ca),(8,.slice fg m fc)] (by simp [AF,AE,esz]) (.agg AR.toArray) (fun w'=>by rw [hAR];exact AB RB _ _ _ _ _ _ w')) hS3 ?_
 have hn3:AG w3 H 163 J0:=by rw [hH];exact (AB HN0).below hb03 hs0
 have hnl:J0.length=24:=rfl
 refine rdy [39] (by kernel_rfl) (FM rfl rfl 163 (.tmp 4) (.tmp 43) rfl H 0 AR (by simp [AF,AE,esz,e4]) (by simp [AF,AE,esz]) 163 J0 hn3 (by rw [I1,hARl]) (by rw [hARl,hnl];omega) hAR1 rfl (fun w4 H4 G4=>⟨hS3.grown (AB G4) (by simp;omega),fun hS4=> ?_⟩) AllReadyH.nil)
 refine wpAnyH_done (by kernel_rfl) ?_ _
 rw [AB HA]
 simp only [Act.put,zm,zi,zj]
 have h4:=AB H4
 rw [show splice J0 0 AR=AR by unfold splice;rw [zq,List.take_zero,yc,hARl,yg (by rw [hnl];omega),xz]] at h4
 have g4:=AB G4
 have HFN:=AC (show Nk pid par st su E R PS m FR w (.returned (.agg AR.toArray)) w4 from by
  refine ⟨ga,ca,fg,fc,by rw [hAR],?_,?_,?_,fun a b ha hb=>by have:=hga a ha;have:=hfg b hb;omega⟩
  ·have h1:=(AB HB0).trans (hb03.mono (by omega))
   exact h1.trans (Ag g4 (by omega) h1.size)
  ·exact EJ ((BO ho2 (AC hb3)).kept g4 (.inr (JL fun a ha=>by have:=hga a ha;omega))) (by omega)
  ·exact EJ (ho3.kept g4 (.inr (JL fun a ha=>by have:=hfg a ha;omega))) (by omega))
 have HL:=AC h4
 have HARL:=AC hARl
 clear hS hS1 hS2 hS2' hS3 hS3' hS4 h4 g4 H4 G4 hb2 hb3 hb03 ho2 ho3 hn3 hAR1 hAR hARl HA e0 e1 e4 esz
 subst hH
 go_wp2
 exact ⟨rfl,.agg AR.toArray,Fg (by rfl) (by rfl) (run_loadVar_mid w4 w.heap.size 0 163 AR _ (AB HL).range Tryz.underlying163 rfl (by rw [I1,AB HARL])),AB HFN⟩
end
section
open Go Go.RowKit Go.Maps
theorem VV (w:World):((#[{name:= "PC",type:=75,offset:=0,embedded:=false,tag:= "",pkgPath:= "",byteOffset:=0},{name:= "Regs",type:=76,offset:=1,embedded:=false,tag:= "",pkgPath:= "",byteOffset:=8},{name:= "Space",type:=188,offset:=17,embedded:=false,tag:= "",pkgPath:= "",byteOffset:=136}]:Array Field).mapM fun f=>(do pure (f.offset,<-sizeOf f.type):Sem (Nat×Nat))).run Tryz.prog w= .ok #[(0,1),(1,16),(17,65792)] w:=by
 simp [Tryz.sizeOf75,Tryz.sizeOf76,Tryz.sizeOf188]
theorem Yd (E:Int) (S:List Value) (hS:S.length=65792) (w:World):(Instr.build 190 #[(0,.int .u64 E),(2,.agg S.toArray)]).run Tryz.prog w= .ok (.agg (Cg E Cb S).toArray) w:=by
 have hzv:=Tryz.zeroValue190 w
 have hl:Tryz.zeroCells190.toList.length=65809:=by rw [xu];exact Tryz.zeroCells190_size
 have hz1:=eO
 generalize Tryz.zeroCells190=ZA at hzv hl hz1
 obtain ⟨Z⟩:=ZA
 have hl:Z.length=65809:=hl
 have hz1:Z.take 17=List.replicate 17 (.int .u64 0):=hz1
 have hff:Instr.fill (fun i=>(#[(0,1),(1,16),(17,65792)]:Array (Nat×Nat))[i]?) (Value.agg Z.toArray).cells [(0,Value.int .u64 E),(2,Value.agg S.toArray)]=some (Cg E Cb S).toArray:=by
  show Instr.fill _ Z.toArray _=_
  rw [FE _ _ 0 0 1 _ _ rfl rfl (by rw [hl];omega),FE _ _ 2 17 65792 _ _ rfl (by simp [Value.cells,hS]) (by rw [BE _ _ _ (by simp [Value.cells,hl])];omega)]
  refine congrArg some (congrArg List.toArray ?_)
  have e0:Z=List.replicate 17 (.int .u64 0)++Z.drop 17:=by rw [<-hz1,List.take_append_drop]
  have hd:(Z.drop 17).length=65792:=by rw [List.length_drop,hl]
  generalize Z.drop 17=D at e0 hd
  subst e0
  unfold splice Cg Cb
  simp [Value.cells,hd,hS,List.replicate_succ]
 unfold Instr.build
 simp only [Sem.run_bind,hzv,yk,run_underlying Tryz.underlying190,VV,hff]
 rfl
theorem dg:(Tryz.prog.info? 190).map (·.size)=some 65809:=by
 have h:=Tryz.sizeOf190 default
 cases hi:Tryz.prog.info? 190 with
 |none=>simp [sizeOf,typeInfo,hi] at h
 |some i=>simp [sizeOf,typeInfo,hi] at h;simp [h]
theorem VW (E:Int) (R:List Int) {S:List Value} (hS:∀v∈S,v.oneCell'=true):∀v∈Cg E R S,v.oneCell'=true:=by
 intro v hv
 unfold Cg at hv
 rcases List.mem_append.1 hv with h|h
 ·rcases List.mem_cons.1 h with rfl|h
  ·rfl
  ·obtain ⟨x,_,rfl⟩:=yw.1 h;rfl
 ·exact hS v h
theorem Tl {E E':Int} {R R':List Int} {S S':List Value} {pid par st su wk:Int} {fds:List Value} (h1:(Cg E R S).length=65809) (h2:(Cg E' R' S').length=65809):splice (AZ E R S pid par st su wk fds) 0 (Cg E' R' S')=AZ E' R' S' pid par st su wk fds:=by
 unfold splice AZ
 rw [zq,List.take_zero,yc,h2,List.drop_left' h1]
theorem bU {E:Int} {R:List Int} {S:List Value} {pid par st su wk:Int} {fds:List Value} (hR:R.length=16) (x:Int):(AZ E R S pid par st su wk fds).set 16 (.int .u64 x)=AZ E (R.set 15 x) S pid par st su wk fds:=by
 unfold AZ Cg
 have e:((Value.int .u64 E::R.map (Value.int .u64))++S).set 16 (.int .u64 x)=(Value.int .u64 E::(R.set 15 x).map (Value.int .u64))++S:=by
  rw [List.set_append_left _ _ (by simp [hR]),zj,List.map_set]
 rw [List.set_append_left _ _ (by simp [hR];omega),e]
theorem Jf {B:List Int} {ss:List Seg}:∀(n:Nat),(∀p,p<n->ss.countP (fun s=>cov s p)<=1)->(Bb B ss n).Pairwise (fun p q=>p.num<q.num)/\∀q∈Bb B ss n,0<=q.num/\q.num<(n:Int)
 |0,_=>by simp [Bb]
 |n+1,h=>by
  obtain ⟨h1,h2⟩:=Jf (B:=B) n (fun p hp=>h p (by omega))
  rw [GY]
  have hc:=h n (by omega)
  rw [List.countP_eq_length_filter] at hc
  generalize hF:ss.filter (fun s=>cov s n)=F at hc
  refine ⟨List.pairwise_append.2 ⟨h1,?_,fun a ha b hb=> ?_⟩,fun q hq=> ?_⟩
  ·cases F with
   |nil=>simp
   |cons x r=>
    have:r=[]:=by cases r with
     |nil=>rfl
     |cons y t=>simp at hc
    subst this
    simp
  ·obtain ⟨x,_,rfl⟩:=yw.1 hb
   exact (h2 a ha).2
  ·rcases List.mem_append.1 hq with h3|h3
   ·have:=h2 q h3;omega
   ·obtain ⟨x,_,rfl⟩:=yw.1 h3
    show 0<=(n:Int)/\(n:Int)<((n+1:Nat):Int)
    omega
theorem VX {B:List Int} (h:KU B):As (Am B)/\∀p∈Am B,p.num<254:=by
 have hs:=Jf (B:=B) (ss:=BZ B) 256 (fun p hp=>h.2.2.1 p hp)
 have hm:∀p∈Am B,∃(n:Nat) (s:Seg),p.num=n/\p.perm=s.perm/\s∈BZ B/\cov s n=true:=by
  intro p hp
  obtain ⟨n,_,hq⟩:=List.mem_flatMap.1 hp
  obtain ⟨s,hs,rfl⟩:=yw.1 hq
  obtain ⟨h1,h2⟩:=List.mem_filter.1 hs
  exact ⟨n,s,rfl,rfl,h1,h2⟩
 have hsg:∀s∈BZ B,∃i,Ff B (64+56*i)/\s=Dc B (64+56*i):=by
  intro s hs
  unfold BZ BP at hs
  obtain ⟨i,hi,rfl⟩:=yw.1 hs
  exact ⟨i,h.2.1 i (zg.1 hi),rfl⟩
 have hlt:∀p∈Am B,p.num<254:=by
  intro p hp
  obtain ⟨n,s,h1,_,h3,h4⟩:=hm p hp
  obtain ⟨i,hi,rfl⟩:=hsg s h3
  have hl:=(Ex.1 h4).2
  have:=hi.2.2.2.2.2.2
  have:=hi.2.2.1
  unfold Seg.last at hl
  omega
 refine ⟨⟨hs.1,fun p hp=> ?_⟩,hlt⟩
 obtain ⟨n,s,h1,h2,h3,h4⟩:=hm p hp
 obtain ⟨i,hi,rfl⟩:=hsg s h3
 have hpm:=hi.2.1
 obtain ⟨a,b,c⟩:=JI h p hp
 have:=hlt p hp
 refine ⟨by omega,by omega,?_,b,c⟩
 rw [h2];exact hpm.1
theorem Wh {B:List Int} (h:KU B) (R:List Int) (hR:R.length=512):As (Am B++Cp R):=by
 obtain ⟨h1,h2⟩:=VX h
 refine ⟨List.pairwise_append.2 ⟨h1.sorted,by simp [Cp],fun a ha b hb=> ?_⟩,fun p hp=> ?_⟩
 ·have:=h2 a ha
  simp only [Cp,List.mem_cons,List.mem_nil_iff,or_false] at hb
  rcases hb with rfl|rfl
  ·show a.num<254;omega
  ·show a.num<255;omega
 ·rcases List.mem_append.1 hp with hp|hp
  ·exact h1.each p hp
  ·have hb:=(JQ R hR p hp).2.2
   simp only [Cp,List.mem_cons,List.mem_nil_iff,or_false] at hp
   rcases hp with rfl|rfl
   ·exact ⟨show (0:Int)<=254 by decide,show (254:Int)<256 by decide,show (1:Int)<=6 by decide,show (6:Int)<=255 by decide,hb⟩
   ·exact ⟨show (0:Int)<=255 by decide,show (255:Int)<256 by decide,show (1:Int)<=6 by decide,show (6:Int)<=255 by decide,hb⟩
end
section
open Go Go.RowKit
def Vb:List Value:=[.slice none 0 0,.slice none 0 0]
end
end Go.Proofs.YtdchgbmliojoiaaGreatDoor
