import Derived.Test.YtpcjkidgohpeoaaGreatDoorG21
set_option maxRecDepth 100000
set_option maxHeartbeats 4000000
set_option linter.all false
namespace Go.Proofs.YtpcjkidgohpeoaaGreatDoor
open RowKit Maps Proofs.Tryz
variable {w w':World} {E pid par st su wk x perm addr:Int} {R typed out:List Int} {SP fds:List Value} {v vt vw:Value} {n B cb:Nat} {PS:List Pg}
def Jb (w:World) (m:Nat):Prop:=∃clock,w.heap[m]? =some (.map #[] clock)
def Jb.below {m:Nat} (h:Jb w m) (hl:m<w.heap.size) (hb:Bw w w'):Jb w' m:=by
 obtain ⟨c,hc⟩:=h;exact ⟨c,by rw [hb.block m hl];exact hc⟩
def LE:(prog.info? 97).map (·.comparable)=some true:=kf
def nz (cb:Nat) (w:World):(binOp .neq 190 (.iface 97 (qP cb 0)) (.iface 97 (qP cb 0))).run prog w= .ok (.bool false) w:=by
 have hc:=LE
 cases hi:prog.info? 97 with
 |none=>simp [hi] at hc
 |some i=>
  have C:i.comparable=true:=by simpa [hi] using hc
  have h:∀d:Nat,(Op.equalIn (d+2) 190 (.iface 97 (qP cb 0)) (.iface 97 (qP cb 0))).run prog w= .ok true w:=λd=>by
   simp [Op.equalIn,ue underlying190,ue underlying97,typeInfo,hi,C,sameAddr]
  simp only [binOp];simp [Op.equal,Op.maxDepth,h 9998]
def IS (cb:Nat) (xs:List Value):Prop:=xs.length=8/\∀x∈xs,x=Ef cb\/x= .nilIface
def jA (cb:Nat):IS cb (FJ cb 3):=⟨rfl,λx hx=>by
 rw [iz] at hx;simp only [vp,uu,or_false] at hx
 rcases hx with h|h|h|h|h|h|h|h<;>simp [h]⟩
def Wn (xs:List Value) (i:Nat) (h1:i<xs.length) (hx:xs.length=8) (w:World):(Instr.index 191 (.agg xs.toArray) (iV (i:Int))).run prog w= .ok (xs.getD i .nilIface) w:=by
 have h2:(i:Int)<8:=om;simp [Instr.index,asIntOf,ue underlying191,h2,go_sem];rw [zz h1,vu om];rfl
def eS (kb pb:Nat) (st:Int) (w:World) (h:cE w pb 65811 (iV st)) (C:st≠1):
  cT 200 #[qP kb 7,qP pb 0] w λe w'=>e= .returned (iV 0)/\w'=w:=by
 have hq:(st==1)=false:=sU C;go_enter func200,ntmps200;go_wp2;go_ret;exact ⟨rfl,rfl⟩
def eT:eN 200:=enters_of func200 kf rfl
def Wp:eN 201:=enters_of func201 kf rfl
def Uo:eN 202:=enters_of func202 kf rfl
def KC {P:Program} {ops:Array Oper} {o:Oper} {a:Act} {K:Act->World->Prop} {Q:Exit->Act->World->Prop} {E:Prop} (F:o.guard=none) (f n1:Nat) (t1:TypeId)
  (ho:o.op= .call {callee:= .value (.func f),args:=#[.tmp n1],argTypes:=#[t1]}) (v1:Value) (h1:a.eval (.tmp n1)=v1)
  (he:∀args w,(callFunc f args).run P w= .ok (.enter f args) w) (C:Ending->World->Prop) (hp:∀e w',C e w'->∃r,e= .returned r) (hc:Calls P f #[v1] w C) (d:Option Tmp) (hd:o.dst=d)
  (h:∀r w',C (.returned r) w'->K (a.put d r) w'):
  if Region.wanted o (yielded ops a.tmps)=true then Oper.wp P o a w K Q else E:=by
 have hw:Region.wanted o (yielded ops a.tmps)=true:=by simp [Region.wanted,F]
 have G:a.tmps[n1]?.getD undef=v1:=by rw [<-h1];simp [go_sem]
 rw [vu hw];subst hd;unfold Oper.wp;simp [execOp,ho,resolve,invoke,G,Result.andThen,go_sem,he];refine hc.mono ?_;intro e w' D;obtain ⟨r,rfl⟩:=hp e w' D;have:=h r w' D;simpa [go_sem] using this
def ZO (pid par st su le pc r0 r1 r2 r3 r4 r5 r6 r7 r8 r9 D F I G H C:Int) (pa fa:Option Addr) (pn pk fn fk:Nat) (w:World):(Instr.build 161 #[(0,iV pid),(1,iV par),(2,iV st),(3,iV su),(4,iV le),(5,uV pc),(6,.agg (Dh [r0,r1,r2,r3,r4,r5,r6,r7,r8,r9,D,F,I,G,H,C]).toArray),(7,.slice pa pn pk),(8,.slice fa fn fk)]).run prog w= .ok (.agg (Dg pid par st su le pc [r0,r1,r2,r3,r4,r5,r6,r7,r8,r9,D,F,I,G,H,C] (.slice pa pn pk) (.slice fa fn fk)).toArray) w:=kf
def Wq (pid par st su le pc:Int) (R:List Int) (hR:R.length=16) (pa fa:Option Addr) (pn pk fn fk:Nat) (w:World):(Instr.build 161 #[(0,iV pid),(1,iV par),(2,iV st),(3,iV su),(4,iV le),(5,uV pc),(6,.agg (Dh R).toArray),(7,.slice pa pn pk),(8,.slice fa fn fk)]).run prog w= .ok (.agg (Dg pid par st su le pc R (.slice pa pn pk) (.slice fa fn fk)).toArray) w:=by
 rw [iX hR];exact ZO _ _ _ _ _ _ _ _ _ _ _ _ _ _ _ _ _ _ _ _ _ _ _ _ _ _ _ _ w
def Nj (hR:R.length=16) (hS:SP.length=65792) (j:Nat) (v:Value) (h:([iV pid,iV par,iV st,iV su,iV wk]++fds)[j]? =some v):(AX E R SP pid par st su wk fds)[65809+j]? =some v:=by
 have hc:=Bj (E:=E) hR hS;unfold AX;rw [zn om,hc,yc];exact h
def jC (hR:R.length=16) (hS:SP.length=65792) (j:Nat) (v:Value) (h:(Dh R)[j]? =some v):(AX E R SP pid par st su wk fds)[1+j]? =some v:=by
 have hj:=(zy.1 h).1;have hj:j<16:=by simpa [Dh,hR] using hj
 have hc:=Bj (E:=E) hR hS;unfold AX;rw [zo om];unfold CK;rw [zo (by simp [hR];omega),Nat.add_comm,List.getElem?_cons_succ];exact h
def eU (hR:R.length=16) (hS:SP.length=65792) (j:Nat) (v:Value) (h:SP[j]? =some v):(AX E R SP pid par st su wk fds)[17+j]? =some v:=by
 have hj:=(zy.1 h).1;have hc:=Bj (E:=E) hR hS;unfold AX;rw [zo om];unfold CK;have h1:(Value.int .u64 E::R.map (Value.int .u64)).length=17:=by simp [hR]
 rw [zn om,h1,yc];exact h
def Ip {base:Nat} {e:TypeId} {C:Nat} {xs:List Value} (h:w.ownsRow base e C v n xs):∃pa c,v= .slice pa n c/\(0<n->∃g,pa=some (xK g 0))/\∀a,pa=some a->base<=a.block/\a.block<w.heap.size:=by
 have G:=h.lt;obtain ⟨_,h|⟨g,D,F,h1,h2,h3,_⟩⟩:=h
 ·obtain ⟨rfl,rfl⟩:=h;exact ⟨none,0,rfl,λh=>om,λa h=>by cases h⟩
 ·refine ⟨some (xK g 0),D,h1,λ_=>⟨g,rfl⟩,λa ha=> ?_⟩;cases ha;exact ⟨h2,(yo.1 h3).1⟩
def G3 {pa:Option Addr} {c H:Nat} (h:∀a,pa=some a->a.block≠H):(Value.slice pa n c).ownBlock≠some H:=by
 cases pa with
 |none=>simp [Value.ownBlock]
 |some a=>simpa [Value.ownBlock] using h a rfl
def Qw (pid par st su E:Int) (R:List Int) (PS:List Pg) (m:Nat) (FR:List Value) (w:World) (e:Ending) (w':World):Prop:=
 ∃pa ca fa fc,e= .returned (.agg (Dg pid par st su 0 E R (.slice pa PS.length ca) (.slice fa m fc)).toArray)/\Bw w w'/\
  w'.ownsRow w.heap.size 164 258 (.slice pa PS.length ca) PS.length (BH PS)/\w'.ownsRow w.heap.size 252 3 (.slice fa m fc) m FR/\∀a b,pa=some a->fa=some b->a.block≠b.block
def ZP:(prog.info? 74).map (·.size)=some 16:=kf
def Oh (pid par st su le pc:Int) (R:List Int) (pa fa:Option Addr) (pn pk fn fk:Nat):∀v∈Dg pid par st su le pc R (.slice pa pn pk) (.slice fa fn fk),v.oneCell'=true:=by
 intro v hv;simp only [Dg,vp,uu,or_false] at hv;rcases hv with rfl|rfl|rfl|rfl|rfl|rfl|rfl|rfl|rfl|rfl|rfl|rfl|rfl|rfl|rfl|rfl|rfl|rfl|rfl|rfl|rfl|rfl|rfl|rfl<;>rfl
def Lp:List Value:=Dg 0 0 0 0 0 0 [] sN sN
def jD (kb pb:Nat) (E:Int) (R:List Int) (PS:List Pg) (pid par st su wk:Int) (xs:List Value) (m:Nat) (FR:List Value) (w:World) (hp:AE w pb 193 (AX E R (AW PS) pid par st su wk xs)) (hR:R.length=16) (a0:Bc PS) (b2:st≠1) (b1:∀w':World,w'.rangeAt pb 65814 xs->cT 202 #[qP pb 0] w' λe w2=>∃v,e= .returned v/\w2.ownsRow w'.heap.size 252 3 v m FR/\Bw w' w2):
  cT 161 #[qP kb 0,qP pb 0] w (Qw pid par st su E R PS m FR w):=by
 have F:(AW PS).length=65792:=CM (λq hq=>(a0.each q hq).2.2.2.2);obtain ⟨D,C⟩:=xE (AX E R (AW PS) pid par st su wk xs);have x1:D[65809]? =some (iV pid):=by rw [C];exact Nj hR F 0 _ rfl
 have x2:D[65810]? =some (iV par):=by rw [C];exact Nj hR F 1 _ rfl
 have x3:D[65811]? =some (iV st):=by rw [C];exact Nj hR F 2 _ rfl
 have x4:D[65812]? =some (iV su):=by rw [C];exact Nj hR F 3 _ rfl
 have x5:D[0]? =some (uV E):=by rw [C];rfl
 have x6:∀(w':World),AE w' pb 193 D->w'.rangeAt pb 1 (Dh R):=λw' h j v hv=>h.cell (by rw [C];exact jC hR F j v hv);have x7:∀(w':World),AE w' pb 193 D->w'.rangeAt pb 17 (AW PS):=λw' h j v hv=>h.cell (by rw [C];exact eU hR F j v hv);have x8:∀(w':World),AE w' pb 193 D->w'.rangeAt pb 65814 xs:=λw' h j v hv=>h.cell (by rw [C,show 65814+j=65809+(5+j) by omega];refine Nj hR F _ _ ?_;rw [zn sI];simpa using hv);rw [<-C] at hp;obtain ⟨RR,V⟩:=xE (Dh R);have b4:RR.length=16:=by rw [V];simp [Dh,hR]
 have R1:=AC (show ∀w':World,AE w' pb 193 D->(Instr.loadAt 3 (qP pb 65809)).run prog w'= .ok (iV pid) w' from λw' h=>by
  have d:=h.cell x1;clear h hp x1 x2 x3 x4 x5 x6 x7 x8 C F
  go_simp)
 have R2:=AC (show ∀w':World,AE w' pb 193 D->(Instr.loadAt 3 (qP pb 65810)).run prog w'= .ok (iV par) w' from λw' h=>by
  have d:=h.cell x2;clear h hp x1 x2 x3 x4 x5 x6 x7 x8 C F
  go_simp)
 have R3:=AC (show ∀w':World,AE w' pb 193 D->(Instr.loadAt 157 (qP pb 65811)).run prog w'= .ok (iV st) w' from λw' h=>by
  have d:=h.cell x3;clear h hp x1 x2 x3 x4 x5 x6 x7 x8 C F
  go_simp)
 have R4:=AC (show ∀w':World,AE w' pb 193 D->(Instr.loadAt 3 (qP pb 65812)).run prog w'= .ok (iV su) w' from λw' h=>by
  have d:=h.cell x4;clear h hp x1 x2 x3 x4 x5 x6 x7 x8 C F
  go_simp)
 have R5:=AC (show ∀w':World,AE w' pb 193 D->(Instr.loadAt 73 (qP pb 0)).run prog w'= .ok (uV E) w' from λw' h=>by
  have d:=h.cell x5;clear h hp x1 x2 x3 x4 x5 x6 x7 x8 C F
  go_simp)
 have R6:Hid (∀w':World,AE w' pb 193 D->w'.rangeAt pb 1 RR):=λw' h=>by rw [V];exact x6 w' h
 have R7:=AC (show (prog.info? 74).map (·.size)=some RR.length from by rw [ZP,b4]);have c3:Hid (∀w':World,AE w' pb 193 D->cT 200 #[qP kb 7,qP pb 0] w' λe w2=>e= .returned (iV 0)/\w2=w'):=λw' h=>eS kb pb st w' (h.cell x3) b2;have c9:Hid (∀w':World,AE w' pb 193 D->cT 201 #[qP pb 17] w' λe w2=>∃v,e= .returned v/\w2.ownsRow w'.heap.size 164 258 v PS.length (BH PS)/\Bw w' w2):=λw' h=>Qv pb 17 PS w' a0 (x7 w' h) h.lt;have c2:Hid (∀w':World,AE w' pb 193 D->cT 202 #[qP pb 0] w' λe w2=>∃v,e= .returned v/\w2.ownsRow w'.heap.size 252 3 v m FR/\Bw w' w2):=λw' h=>b1 w' (x8 w' h)
 have RB:Hid (∀(pa fa:Option Addr) (pn pk fn fk:Nat) (w':World),(Instr.build 161 #[(0,iV pid),(1,iV par),(2,iV st),(3,iV su),(4,iV 0),(5,uV E),(6,.agg RR.toArray),(7,.slice pa pn pk),(8,.slice fa fn fk)]).run prog w'= .ok (.agg (Dg pid par st su 0 E R (.slice pa pn pk) (.slice fa fn fk)).toArray) w'):=λpa fa pn pk fn fk w'=>by rw [V];exact Wq pid par st su 0 E R hR pa fa pn pk fn fk w'
 obtain ⟨W0,Y⟩:=xE (w.alloc (.cells Lp.toArray 161));have a2:Bw w W0:=by rw [Y];exact bA
 have a4:AE W0 w.heap.size 161 Lp:=by rw [Y];exact AE.new w 161 _
 have b6:=hp.below a2 hp.lt;have d0:pb<w.heap.size:=hp.lt;have c6:=AC Y;have c1:=AC a2;have b7:=AC a4;have a1:=AC b6;have c0:w.heap.size<W0.heap.size:=a4.lt;clear hp b6 x1 x2 x3 x4 x5 x6 x7 x8 C F V b4 a0 Y a2 a4 hR b2 b1;go_enter func161,ntmps161
 go_upto_region 1 with fail
 have a7:Hid (w.alloc (Obj.cells #[iV 0,iV 0,iV 0,iV 0,iV 0,uV 0,uV 0,uV 0,uV 0,uV 0,uV 0,uV 0,uV 0,uV 0,uV 0,uV 0,uV 0,uV 0,uV 0,uV 0,uV 0,uV 0,sN,sN] 161)=W0):=c6.symm;rw [AB a7];obtain ⟨H,hH⟩:=xE w.heap.size;rw [<-hH];refine Ak ?_;intro A hA;have e0:A.eval (.tmp 0)= qP kb 0:=eH hA;have e1:A.eval (.tmp 1)= qP pb 0:=eH hA;have e4:A.eval (.tmp 4)= qP H 0:=eH hA;have c4:A.tmps.size=44:=eZ hA;have HA:=AC hA;clear hA;refine xf (S:=λw'=>AE w' pb 193 D) kf (a1.heap rfl) (λhS=> ?_);refine tq 0 5 rfl (yM (qP pb 0)) hS (tq 1 6 rfl (yN (xK pb 0)) hS (tq 2 7 rfl (yF (qP pb 0) (qP pb 65809)) hS (tq 3 8 rfl (yl R1) hS (tq 4 9 rfl (yM (qP pb 0)) hS (tq 5 10 rfl (yN (xK pb 0)) hS ?_)))))
 refine tq 6 11 rfl (yF (qP pb 0) (qP pb 65810)) hS (tq 7 12 rfl (yl R2) hS (tq 8 13 rfl (yM (qP pb 0)) hS (tq 9 14 rfl (yN (xK pb 0)) hS (tq 10 15 rfl (yF (qP pb 0) (qP pb 65811)) hS (tq 11 16 rfl (yl R3) hS ?_)))));refine tq 12 17 rfl (yM (qP pb 0)) hS (tq 13 18 rfl (yN (xK pb 0)) hS (tq 14 19 rfl (yF (qP pb 0) (qP pb 65812)) hS (tq 15 20 rfl (yl R4) hS (tq 16 21 rfl (yM (qP kb 0)) hS (tq 17 22 rfl (yN (xK kb 0)) hS ?_)))));refine tq 18 23 rfl (yF (qP kb 0) (qP kb 7)) hS (tq 19 24 rfl (yM (qP pb 0)) hS ?_)
 refine tq 21 26 rfl (yM (qP pb 0)) hS (tq 22 27 rfl (yN (xK pb 0)) hS (tq 23 28 rfl (yF (qP pb 0) (qP pb 0)) hS (tq 24 29 rfl (yF (qP pb 0) (qP pb 0)) hS (tq 25 30 rfl (yl R5) hS (tq 26 31 rfl (yM (qP pb 0)) hS ?_)))));refine tq 27 32 rfl (yN (xK pb 0)) hS (tq 28 33 rfl (yF (qP pb 0) (qP pb 0)) hS (tq 29 34 rfl (yF (qP pb 0) (qP pb 1)) hS (tq 30 35 rfl (yieldsIf_load_mid (by simp [Region.wanted]) 74 _ rfl pb 1 sE RR _ (AB R6) underlying74 rfl (AB R7)) hS (tq 31 36 rfl (yM (qP pb 0)) hS (tq 32 37 rfl (yN (xK pb 0)) hS ?_)))))
 refine tq 33 38 rfl (yF (qP pb 0) (qP pb 0)) hS (tq 34 39 rfl (yF (qP pb 0) (qP pb 17)) hS (tq 36 41 rfl (yM (qP pb 0)) hS ?_));refine rdy [20] kf (vq rfl (λK hK=> ?_) vr);refine JB rfl 200 23 24 _ _ rfl (qP kb 7) (qP pb 0) sE sE eT _ (iV 0) (λe w' h=>h.1) (AB c3 _ hS) (some 25) rfl ?_;rintro w1 ⟨_,b9⟩;subst b9;refine hK.out _ _ hS (λc7=> ?_);clear hK K;refine rdy [35] kf (vq rfl (λK hK=> ?_) vr);refine KC rfl 201 39 _ rfl (qP pb 17) sE Wp _ (λe w' ⟨v,h,_⟩=>⟨v,h⟩) (AB c9 _ hS) (some 40) rfl ?_;rintro r2 w2 ⟨v2,N,L,I⟩;have N:r2=v2:=by injection N
 subst N;obtain ⟨ga,ca,N, -,X⟩:=Ip L;subst N;have I:Bw W0 w2:=⟨I.os,I.tape,I.output,I.size,I.block⟩;have L:w2.ownsRow W0.heap.size 164 258 (.slice ga PS.length ca) PS.length (BH PS):=L;have X:∀a,ga=some a->W0.heap.size<=a.block/\a.block<w2.heap.size:=X;have a6:AE w2 pb 193 D:=a1.below I om;refine hK.out _ _ a6 (λa9=> ?_);clear hK K;refine rdy [37] kf (vq rfl (λK hK=> ?_) vr);refine KC rfl 202 41 _ rfl (qP pb 0) sE Uo _ (λe w' ⟨v,h,_⟩=>⟨v,h⟩) (AB c2 _ a6) (some 42) rfl ?_;rintro r3 w3 ⟨v3,T,a8,a5⟩;have T:r3=v3:=by injection T
 subst T;obtain ⟨fg,fc,T, -,b0⟩:=Ip a8;subst T;have b8:=I.size;have J:Bw W0 w3:=I.trans (a5.mono b8);have U:AE w3 pb 193 D:=a1.below J om;refine hK.out _ _ U (λa3=> ?_);clear hK K;obtain ⟨AR,M⟩:=xE (Dg pid par st su 0 E R (.slice ga PS.length ca) (.slice fg m fc));have G:AR.length=24:=by rw [M];rfl
 have O:∀v∈AR,v.oneCell'=true:=by rw [M];exact Oh _ _ _ _ _ _ _ _ _ _ _ _ _
 refine tq 38 43 rfl (EF rfl _ _ rfl #[(0,iV pid),(1,iV par),(2,iV st),(3,iV su),(4,iV 0),(5,uV E),(6,.agg RR.toArray),(7,.slice ga PS.length ca),(8,.slice fg m fc)] sE (.agg AR.toArray) (λw'=>by rw [M];exact AB RB _ _ _ _ _ _ w')) U ?_;have b3:AE w3 H 161 Lp:=by rw [hH];exact b7.below J c0
 have b5:Lp.length=24:=rfl;refine rdy [39] kf (CZ rfl rfl 161 (.tmp 4) (.tmp 43) rfl H 0 AR sE sE 161 Lp b3 (by rw [KB,G]) (by rw [G,b5];omega) O rfl (λw4 H4 G4=>⟨U.grown (AB G4) sO,λc5=> ?_⟩) vr);refine vg kf ?_ _;rw [AB HA];simp only [Act.put,zl,zh,zi];have h4:=AB H4;rw [show splice Lp 0 AR=AR by unfold splice;rw [zq,List.take_zero,xt,G,xw (by rw [b5];omega),xr]] at h4;have g4:=AB G4
 have c8:=AC (show Qw pid par st su E R PS m FR w (.returned (.agg AR.toArray)) w4 from by
  refine ⟨ga,ca,fg,fc,by rw [M],?_,?_,?_,λa b ha hb=>o2 (X a ha) (b0 b hb)⟩
  ·have h1:=c1.trans (J.mono om);exact h1.trans (Aa g4 om h1.size)
  ·exact EN ((Aw L (AC a5)).kept g4 (.inr (G3 λa ha=>o1 (X a ha)))) om
  ·exact EN (a8.kept g4 (.inr (G3 λa ha=>o1 (b0 a ha)))) om)
 have HL:=AC h4;have Z:=AC G;clear hS c7 a6 a9 U a3 c5 h4 g4 H4 G4 I a5 J L a8 b3 O M G HA e0 e1 e4 c4;subst hH;go_wp2;exact ⟨rfl,.agg AR.toArray,GZ (by rfl) (by rfl) (run_loadVar_mid w4 w.heap.size 0 161 AR _ HL.range underlying161 rfl (by rw [KB,AB Z])),AB c8⟩
def lw:(List.range 256).all (λk:Nat=>((bits .and .u8 (k:Int) 1==0)==(bits .and .i64 (k:Int) 1==0))&&((bits .and .u8 (k:Int) 2==0)==(bits .and .i64 (k:Int) 2==0))&&((bits .and .u8 (k:Int) 4==0)==(bits .and .i64 (k:Int) 4==0)))=true:=kf
def jJ (h0:0<=x) (h1:x<=255) (hp:perm=1\/perm=2\/perm=4):(bits .and .u8 x perm==0)=(bits .and .i64 x perm==0):=by
 have:=za.1 lw x.toNat (zf.2 om);rw [show ((x.toNat:Nat):Int)=x by omega] at this;simp only [ug,beq_iff_eq] at this;rcases hp with rfl|rfl|rfl
 ·exact this.1.1
 ·exact this.1.2
 ·exact this.2
def Up (C:∀q∈PS,0<=q.perm/\q.perm<=255) (hp:perm=1\/perm=2\/perm=4) (h0:0<=x):GT (DR PS) perm x=(decide (x<65536)&&Ed PS perm (x/256)):=by
 unfold GT DR Ed;rw [show (((x/256).toNat:Nat):Int)=x/256 by omega];congr 1
 cases h:PS.find? (λp=>p.num==x/256) with
 |none=>
  rcases hp with rfl|rfl|rfl<;>rfl
 |some q=>
  have:=C q (yk h);exact congrArg _ (jJ this.1 this.2 hp)
def Wt (D:∀q∈PS,0<=q.perm/\q.perm<=255) (hp:perm=1\/perm=2\/perm=4) (h0:0<=addr) (h1:addr<=18446744073709551615) (hn:1<=n) (F:n<=10000):Cl (DR PS) perm addr n=Cf PS addr n perm:=by
 have C:∀i:Nat,i<n->(GT (DR PS) perm (IntKind.u64.wrap (addr+(i:Int)))=true↔IntKind.u64.wrap (addr+(i:Int))<65536/\Ed PS perm (IntKind.u64.wrap (addr+(i:Int))/256)=true):=λi hi=>by
  rw [Up D hp (Yw _).1];simp
 rw [Bool.eq_iff_iff];unfold Cl Cf;rw [vz om,za];constructor
 ·intro h
  have ha:addr<65536:=by
   have:=((C 0 hn).1 (h 0 (zf.2 hn))).1;rw [yh] at this;omega
  have hw:∀i:Nat,i<n->IntKind.u64.wrap (addr+(i:Int))=addr+(i:Int):=λi hi=>by rw [yh];omega
  have hl:=((C (n-1) om).1 (h (n-1) (zf.2 om))).1;rw [hw (n-1) om] at hl;rw [vz om,za];intro j hj;have hj:=zf.1 hj
  obtain ⟨i,hi,he⟩:∃i:Nat,i<n/\(addr+(i:Int))/256=addr/256+(j:Int):=by
   refine ⟨((addr/256+(j:Int))*256-addr).toNat,?_,?_⟩<;>omega
  have:=((C i hi).1 (h i (zf.2 hi))).2;rw [hw i hi,he] at this;exact this
 ·intro h i hi;have hi:=zf.1 hi;split at h
  ·cases h
  ·rename_i hc
   have hw:IntKind.u64.wrap (addr+(i:Int))=addr+(i:Int):=by rw [yh];omega
   refine (C i hi).2 ⟨by rw [hw];omega,?_⟩;rw [hw];have:=za.1 h ((addr+(i:Int))/256-addr/256).toNat (zf.2 om);rw [show addr/256+((((addr+(i:Int))/256-addr/256).toNat:Nat):Int)=(addr+(i:Int))/256 by omega] at this;exact this
def jK (h0:0<=addr) (h:Cf PS addr n perm=true) {i:Nat} (hi:i<n):addr+(i:Int)<65536/\∃q,PS.find? (λp=>p.num==(addr+(i:Int))/256)=some q:=by
 unfold Cf at h;rw [vz om] at h;split at h
 ·cases h
 ·rename_i hc
  refine ⟨om,?_⟩;have:=za.1 h ((addr+(i:Int))/256-addr/256).toNat (zf.2 om);rw [show addr/256+((((addr+(i:Int))/256-addr/256).toNat:Nat):Int)=(addr+(i:Int))/256 by omega] at this;unfold Ed at this
  cases hf:PS.find? (λp=>p.num==(addr+(i:Int))/256) with
  |none=>rw [hf] at this;cases this
  |some q=>exact ⟨q,rfl⟩
def TQ (PS:List Pg) (x:Nat):Int:=Lb PS (x:Int)
def Uq (p:Pg) (PS:List Pg) (x v:Int):Ds (p::PS) x v=if p.num==x/256 then ⟨p.num,p.perm,p.bytes.set (x%256).toNat v⟩::PS else p::Ds PS x v:=by
 unfold Ds;rw [List.findIdx?_cons];by_cases h:(p.num==x/256)=true
 ·rw [vu h,vu h];rfl
 ·rw [vz h,vz h]
  cases hf:PS.findIdx? (λp=>p.num==x/256) with
  |none=>rfl
  |some k=>
   simp only [Option.map_some,List.getElem?_cons_succ]
   cases hk:PS[k]? with
   |none=>rfl
   |some q=>rfl
def Nk (x v n:Int):∀PS:List Pg,(Ds PS x v).find? (λp=>p.num==n)=(PS.find? (λp=>p.num==n)).map (λq=>if n=x/256 then ⟨q.num,q.perm,q.bytes.set (x%256).toNat v⟩ else q)
 |[]=>rfl
 |p::PS=>by
  rw [Uq];by_cases hn:p.num=n
  ·subst hn;by_cases h:p.num=x/256
   ·rw [vu (sU h)];simp [h]
   ·rw [vz (sU h)];simp [h]
  ·by_cases h:p.num=x/256
   ·rw [vu (sU h)];have hx:¬n=x/256:=λe=>hn (h.trans e.symm);simp [hn,hx]
   ·rw [vz (sU h)];simp only [List.find?_cons,show (p.num==n)=false by simpa using hn];exact Nk x v n PS
def ZR (hb:∀p∈PS,p.bytes.length=256) (h0:0<=x) (h1:x<65536) {q:Pg} (hq:PS.find? (λp=>p.num==x/256)=some q) (v:Int):(AW PS).set (GE 0 x) (.int .u8 v)=AW (Ds PS x v):=by
 have D:∀p∈Ds PS x v,p.bytes.length=256:=λp hp=>by
  obtain ⟨k,hk⟩:=yj.1 hp;obtain ⟨r,h1,_,_,h3⟩:=JC (Lc PS x v).symm hk;rw [<-h3];exact hb r (zv h1)
 have I:=CM hb;have G:=CM D;refine ru λm=> ?_;by_cases hm:m<65792
 ·obtain ⟨j,k,hj,hk,rfl⟩:∃j k,j<256/\k<257/\m=j*257+k:=⟨m/257,m%257,om,om,om⟩;rw [Ik D j k hj hk,yv,Ik hb j k hj hk];unfold Cx;rw [Nk];unfold GE;by_cases F:(j:Int)=x/256
  ·rw [F,hq];simp only [Option.map_some,if_true];unfold Bi AF;have C:=hb q (yk hq)
   cases k with
   |zero=>
    rw [vz om]
    rfl
   |succ k=>
    simp only [List.getElem?_cons_succ,ze,yv];by_cases H:(k:Int)=x%256
    ·rw [vu om,vu om,vu om,vu om];rfl
    ·rw [vz om,vz om]
  ·rw [vz om]
   cases hf:PS.find? (λp=>p.num==(j:Int)) with
   |none=>rfl
   |some r=>simp only [Option.map_some,vz F]
 ·rw [yw (by rw [yu];omega),yw om]
def SX (E:Int) (hR:R.length=16) (S:List Value) (pid par st su wk:Int) (fds:List Value) {k:Nat} (hk:k<S.length) (v:Value):(AX E R S pid par st su wk fds).set (17+k) v=AX E R (S.set k v) pid par st su wk fds:=by
 unfold AX CK;have h1:(Value.int .u64 E::R.map (Value.int .u64)).length=17:=by simp [hR]
 rw [List.set_append_left _ _ (by rw [zm,h1];omega),ul _ _ om,h1,yc]
def oA (p:AP) (wk:Int) (fds:List Value):List Value:=AX p.pc p.R (AW p.PS) p.pid p.par p.st p.su wk fds
def Qz (C:Bc PS) (x v:Int):Bc (Ds PS x v):=by
 have D:=Lc PS x v;refine ⟨?_,λq hq=> ?_⟩
 ·have:=C.sorted
  have e:(Ds PS x v).map (·.num)=PS.map (·.num):=by
   have:=congrArg (List.map (λt:Int×Int×Nat=>t.1)) D;simpa [F3,Function.comp_def] using this
  have h1:(PS.map (·.num)).Pairwise (· < ·):=List.pairwise_map.2 this;rw [<-e] at h1;exact List.pairwise_map.1 h1
 ·obtain ⟨k,hk⟩:=yj.1 hq;obtain ⟨r,h1,h2,h3,h4⟩:=JC D.symm hk;have:=C.each r (zv h1);rw [h2,h3,h4] at this;exact this
section
variable {pb:Nat} {p:AP}
def TR {W:World} (h:AE W pb 193 (oA p wk fds)) (hR:p.R.length=16) (C:Bc p.PS) {addr:Int} (h0:0<=addr) {n:Nat} (hm:Cf p.PS addr n 2=true) (L:List Int):∀j,j<=n->AE (EH W pb (0+17) addr L j) pb 193 (oA {p with PS:=CF p.PS addr L j} wk fds)/\Bc (CF p.PS addr L j)
 |0,_=>⟨h,C⟩
 |j+1,hj=>by
  obtain ⟨h1,h2⟩:=TR h hR C h0 hm L j om;have hx:=jK h0 hm (show j<n by omega);have hw:IntKind.u64.wrap (addr+(j:Int))=addr+(j:Int):=by rw [yh];omega
  have hb:∀q∈CF p.PS addr L j,q.bytes.length=256:=λq hq=>(h2.each q hq).2.2.2.2;obtain ⟨q0,D⟩:=hx.2
  obtain ⟨q,hq⟩:∃q,(CF p.PS addr L j).find? (λp=>p.num==(addr+(j:Int))/256)=some q:=by
   have:∀i,∃q,(CF p.PS addr L i).find? (λp=>p.num==(addr+(j:Int))/256)=some q:=λi=>by
    induction i with
    |zero=>exact ⟨q0,D⟩
    |succ i ih=>
     obtain ⟨q,hq⟩:=ih;show ∃q,(Ds (CF p.PS addr L i) _ _).find? _=some q;rw [Nk,hq];exact ⟨_,rfl⟩
   exact this j
  refine ⟨?_,Qz h2 _ _⟩;have h3:=h1.set (GE (0+17) (IntKind.u64.wrap (addr+(j:Int)))) (.int .u8 (L.getD j 0));rw [hw] at h3;have e:GE (0+17) (addr+(j:Int))=17+GE 0 (addr+(j:Int)):=by unfold GE;omega
  unfold oA at h3;rw [e,SX _ hR _ _ _ _ _ _ _ (by rw [CM hb];unfold GE;omega),ZR hb om hx.1 hq] at h3;show AE ((EH W pb (0+17) addr L j).setCell (xK pb (GE (0+17) (IntKind.u64.wrap (addr+(j:Int))))) (.int .u8 (L.getD j 0))) _ _ _;rw [hw,e];exact h3
end
def Mm (C:Bc PS) (hp:perm=1\/perm=2\/perm=4) (h0:0<=addr) (h1:addr<=18446744073709551615) (hn:n<=10000):Cl (DR PS) perm addr n=Cf PS addr n perm:=by
 by_cases hz:n=0
 ·subst hz;rfl
 ·exact Wt (λq hq=>⟨o1 (C.each q hq).2.2.1,(C.each q hq).2.2.2.1⟩) hp h0 h1 om hn
def fO:eN 159:=enters_of func159 kf rfl
def jn:List Value:=[sN,sN]
structure IF (w:World) (B cb:Nat) (vt vw:Value) (typed out:List Int):Prop where
 row:AE w cb 101 [vt,vw]
 typed:QIs w B vt typed
 out:QIs w B vw out
 apart:∀R,AV vt=some R->AV vw≠some R
 low:B<=cb
structure Mz (w w':World) (cb:Nat) (vt vw:Value):Prop where
 os:w'.os=w.os
 tape:w'.tape=w.tape
 output:w'.output=w.output
 size:w.heap.size<=w'.heap.size
 block:∀k,k<w.heap.size->k≠cb->AV vt≠some k->AV vw≠some k->w'.heap[k]? =w.heap[k]?
def QIs.lt {L:List Int} (h:QIs w B v L) {R:Nat} (hR:AV v=some R):R<w.heap.size/\B<=R/\∃l,AE w R 5 l:=by
 rcases h with ⟨rfl,_⟩|⟨R',X,T,Y,rfl,h2,h3,h4⟩
 ·cases hR
 ·have:R'=R:=by simpa [AV] using hR
  subst this;exact ⟨h2.lt,h4,_,h2⟩
def IF.block (h:IF w B cb vt vw typed out) (hc:w'.heap[cb]? =w.heap[cb]?) (hk:∀R,AV vt=some R\/AV vw=some R->w'.heap[R]? =w.heap[R]?):IF w' B cb vt vw typed out:=⟨AJ h.row hc,h.typed.block λR hR _ _=>hk R (.inl hR),h.out.block λR hR _ _=>hk R (.inr hR),h.apart,h.low⟩
def aJ (w:World) (vt vw vt' vw':Value):Prop:=∀R,AV vt'=some R\/AV vw'=some R->AV vt=some R\/AV vw=some R\/w.heap.size<=R
def IF.typedAdd {N:List Int} (h:IF w B cb vt vw typed out) (ha:aH cb 0 B vt typed N w w'):∃v',IF w' B cb v' vw (typed++N) out/\Mz w w' cb vt vw/\aJ w vt vw v' vw:=by
 obtain ⟨v',W1,rfl,hg,hq,C⟩:=ha
 have F:some cb≠AV vt:=λe=>by
  obtain ⟨_,_,l,hl⟩:=h.typed.lt e.symm;exact Ab hl h.row dz rfl
 have G:Mz w (W1.setCell (xK cb 0) v') cb vt vw:=⟨hg.os,hg.tape,hg.output,zg hg.size (AI (zj W1 (some cb)) 0 v').size,λk hk I h1 h2=>((AI (zj W1 (some cb)) 0 v').block k (yz hk hg.size) (sU I)).trans (hg.block k hk (λe=>h1 e.symm))⟩;refine ⟨v',⟨(h.row.grown hg F).set 0 v',hq,h.out.block λR hR hl hx=> ?_,λR hR D=> ?_,h.low⟩,G,λR hR=> ?_⟩
 ·obtain ⟨l,hx⟩:=hx;have H:R≠cb:=Ab hx h.row dz;exact ((AI (zj W1 (some cb)) 0 v').block R (yz hl hg.size) (sU H)).trans (hg.block R hl (λe=>h.apart R e.symm hR))
 ·rcases C with q|q
  ·exact h.apart R (q.symm.trans hR) D
  ·rw [q] at hR;have:=zr hR;have:=(h.out.lt D).1;omega
 ·rcases hR with hR|hR
  ·rcases C with q|q
   ·exact .inl (q.symm.trans hR)
   ·rw [q] at hR;have:=zr hR;exact .inr (.inr om)
  ·exact .inr (.inl hR)
def M4 (w w':World) (e:Value) (L:List Int):Prop:=∃b k,e= .slice b L.length k/\w'.ownsRow w.heap.size 5 1 (.slice b L.length k) L.length (AF L)
def IF.told {e:Ending} (h:IF w B cb vt vw typed out) (ht:VD cb 1 B vw out out.length w e w'):∃v' r,e= .returned r/\M4 w w' r out/\IF w' B cb vt v' typed []/\Mz w w' cb vt vw/\aJ w vt vw vt v':=by
 obtain ⟨b,k,v',W1,rfl,rfl,hb,ho,hq,C⟩:=ht;rw [uh] at ho;rw [List.drop_length] at hq;refine ⟨v',_,rfl,⟨b,k,rfl,ho⟩,⟨(h.row.below hb h.row.lt).set 1 v',h.typed.block λR hR hl hx=> ?_,hq,λR hR G=>h.apart R hR (C.symm.trans G),h.low⟩,⟨hb.os,hb.tape,hb.output,zg hb.size (AI (zj W1 (some cb)) 1 v').size,λk hk F _ _=>((AI (zj W1 (some cb)) 1 v').block k (yz hk hb.size) (sU F)).trans (hb.block k hk)⟩,λR hR=> ?_⟩
 ·obtain ⟨l,hx⟩:=hx;have D:R≠cb:=Ab hx h.row dz;exact ((AI (zj W1 (some cb)) 1 v').block R (yz hl hb.size) (sU D)).trans (hb.block R hl)
 ·rcases hR with hR|hR
  ·exact .inl hR
  ·exact .inr (.inl (C.symm.trans hR))
def gH (lp lf lo li lb:Int) (fa:Option Addr) (fb F G:Nat) (FZ:List AQ) (sa:Option Addr) (sb so sc:Nat) (OZ:List POp) (w:World) (N:Nat) (hN:N<=w.heap.size) (a9:0<FZ.length->fa=some (xK fb F)) (U:0<FZ.length->fb<w.heap.size) (hf:bV w fb F FZ) (hb:∀f∈FZ,f.path.size<=140737488355328/\f.bytes.length<=140737488355328) (hl:FZ.length<=140737488355328) (hs:IG w N sa sb so OZ) (hz:∀o∈OZ,KQ o) (b9:OZ.length<=140737488355328):
  cT 9 #[.agg #[iV lp,iV lf,iV lo,iV li,iV lb,.slice fa FZ.length G],.slice sa OZ.length sc] w λe w'=>e= .returned (.bool (E4 FZ OZ))/\Bw w w':=by
 have a6:Hid (Bw w (w.alloc (Obj.cells (Hz lp lf lo li lb (.slice fa FZ.length G)).toArray 26))):=bA;have b8:=AC (AE.new w 26 (Hz lp lf lo li lb (.slice fa FZ.length G)));obtain ⟨HF,c7,c6,d1,HZ,b0⟩:=H6 hf a9 U hs hz hN;have HW:=AC (Od (M:=281474976710656) (λf hf=>by have:=hb f hf;unfold Fc;omega));have c8:=AC hb;obtain ⟨n,hn⟩:=xE OZ.length;have HN:=AC hn;have f4:n<=140737488355328:=om;rw [<-hn];clear hf a9 U hb hs hz hN hn b9;by_cases a1:n<=400
 case neg=>
  have hx:(400:Int)<(n:Int):=om;have HR:=AC (show E4 FZ OZ=false from by unfold E4;rw [vf (o1 (AB HN))];rfl);clear a1;go_enter func9,ntmps9;go_wp2;go_ret;exact ⟨by rw [AB HR];rfl,AB a6⟩
 have f0:¬(400:Int)<(n:Int):=om;by_cases H:FZ.length<=100
 case neg=>
  have hx:(100:Int)<(FZ.length:Int):=om;have HR:=AC (show E4 FZ OZ=false from by unfold E4;rw [vf H,Bool.false_and,Bool.and_false]);clear H;go_enter func9,ntmps9;go_wp2;go_ret;exact ⟨by rw [AB HR];rfl,AB a6⟩
 have hx:¬(100:Int)<(FZ.length:Int):=om;go_enter func9,ntmps9;go_wp2
 go_loopw [5,6] (λn i wr=>∃j:Nat,j<=FZ.length/\i= iV j/\n= iV (Dy FZ j)/\Hid (AE wr w.heap.size 26 (Hz lp lf lo li lb (.slice fa FZ.length G)))/\Hid (Bw w wr)) (λ_ i _=>FZ.length-(intOf i).toNat)
 case atStart=>exact ⟨0,om,rfl,rfl,b8,a6⟩
 case round=>
  obtain ⟨j,hj,rfl,rfl,HS,HB⟩:=hrel;have c5:cE wr w.heap.size 5 (.slice fa FZ.length G):=HS.cell rfl;by_cases c0:j<FZ.length
  ·obtain ⟨f,hf⟩:∃f,FZ[j]? =some f:=⟨_,zz c0⟩;obtain rfl:=(AB c7) om;have U:=AB c6 om;obtain ⟨a,q,o,c,b5,c9,J⟩:=HF.bytes j f hf;have d0:wr.cell? (xK fb (F+j*3))=some (.string f.path):=by rw [HB.cell (p:=(xK fb (F+j*3))) U];exact HF.path j f hf
   have d2:wr.cell? (xK fb (F+j*3+2))=some (.slice a f.bytes.length c):=by rw [HB.cell (p:=(xK fb (F+j*3+2))) U];exact b5
   have a0:=AB c8 f (zv hf);have T:=AB HW j;have a5:=LC hf;unfold Fc at a5;have V:=AC a5;obtain ⟨A,hA⟩:=xE (Dy FZ j);rw [<-hA] at T V ⊢;have b3:(A:Int)+(f.path.size:Int)<=100000000000000000:=om;have b1:(A:Int)+(f.path.size:Int)+(f.bytes.length:Int)<=100000000000000000:=om;have d5:(0:Int)<=(j:Int):=om;have d7:(j:Int)<(FZ.length:Int):=om;have f6:(j:Int)<=1000:=om;generalize hps:f.path=ps at d0 V b3 b1 a0;generalize f.bytes.length=bl at d2 V b1 a0;clear hf b5 c9 J a5 hA a0 T hps;go_wp2
   go_quiet (fail)
   go_wp2
   go_roundw
   case rel=>exact ⟨j+1,om,by go_num,by rw [AB V];go_num,AC (HS.heap rfl),AC ⟨HB.os,HB.tape,HB.output,HB.size,HB.block⟩⟩
   case measure=>simp [intOf];omega
  ·have c4:j=FZ.length:=om;subst c4;obtain ⟨A,hA⟩:=xE (Dy FZ FZ.length)
   have HR:=AC (show E4 FZ OZ=decide (((A+KS OZ n:Nat):Int)<=200000) from by
    unfold E4;rw [ve H,ve (show OZ.length<=400 by have:=AB HN;omega),Bool.true_and,Bool.true_and,<-hA,<-AB HN]
    exact decide_eq_decide.2 om)
   have T:=AB HW FZ.length;rw [<-hA] at T ⊢;have b3:(A:Int)<=100000000000000000:=om;have HT:=AC (kX HZ (o1 (AB HN)));clear T hA
   rename World=>wo
   go_wp2
   go_loopw [5,7] (λnv iv w2=>∃k:Nat,k<=n/\nv= iV (A+KS OZ k:Nat)/\iv= iV k/\Hid (Bw w w2)) (λ_ iv _=>n-(intOf iv).toNat)
   case atStart=>exact ⟨0,om,by simp [KS],rfl,HB⟩
   case round=>
    obtain ⟨k,hk,rfl,rfl,O⟩:=hrel;by_cases f2:k<n
    ·obtain ⟨o,ho⟩:∃o,OZ[k]? =some o:=⟨_,zz (o1 (AB HN))⟩;have I:=zv ho;have C:=d1.below (O.mono b0);obtain ⟨rfl,f3⟩:=C.at_ (o1 (AB HN));have X:=AB HZ o I;have s3:cE wr sb (so+k*10+3) (iV o.ck):=C.cell k o ho 3 _ rfl;have s4:cE wr sb (so+k*10+4) (iV o.ca):=C.cell k o ho 4 _ rfl;have s5:cE wr sb (so+k*10+5) (iV o.cb):=C.cell k o ho 5 _ rfl;have s6:cE wr sb (so+k*10+6) (.string o.s):=C.cell k o ho 6 _ rfl;have s7:wr.cell? (xK sb (so+k*10+7))=some o.lv:=C.cell k o ho 7 _ rfl;have s8:wr.cell? (xK sb (so+k*10+8))=some o.bv:=C.cell k o ho 8 _ rfl;have s9:wr.cell? (xK sb (so+k*10+9))=some o.ev:=C.cell k o ho 9 _ rfl;obtain ⟨la,lq,d6,lc,a8,_,_⟩:=(C.each o I).strs;obtain ⟨ba,bq,d9,bc,J,_,_⟩:=(C.each o I).bs;obtain ⟨ea,d3,f5,ec,b6,_,_⟩:=(C.each o I).es;have L:=AC (aW o N wr (C.each o I) (zg b0 O.size) X);unfold POp.call at L
     rw [a8,J] at L;rw [a8] at s7;rw [J] at s8;rw [b6] at s9;have b2:sb<wr.heap.size:=zu _ _ s3;obtain ⟨ol,a2⟩:=xE o.ss.length;obtain ⟨ob,a3⟩:=xE o.B.length;obtain ⟨oe,Z⟩:=xE o.E.length;obtain ⟨cw,Y⟩:=xE (CU o);rw [<-a2] at s7;rw [<-a3] at s8;rw [<-Z] at s9;rw [<-a2,<-a3,<-Y] at L;have b7:=LL X;have b4:=X.e;rw [<-Y] at b7;rw [<-Z] at b4;have a7:=AB HT k;have c1:=AC (show KS OZ (k+1)=KS OZ k+(cw+oe) from by rw [Y,Z];exact JV ho _);obtain ⟨D,hD⟩:=xE (A+KS OZ k);have HD:=AC hD;have c3:(D:Int)+(cw:Int)<=200000000000000000:=om;have d4:(D:Int)+(cw:Int)+(oe:Int)<=200000000000000000:=om;rw [<-hD];have d8:(0:Int)<=(k:Int):=om;have f1:(k:Int)<(n:Int):=om;clear C ho I X a2 a3 Z Y a8 J b6 a7 hD b7 b4
     go_wp2_with fail
     refine L.mono ?_;rintro e w3 ⟨rfl,a4⟩;have t9:w3.cell? (xK sb (so+k*10+9))=some (.slice ea oe ec):=by rw [a4.cell (p:=(xK sb (so+k*10+9))) b2];exact s9
     have c2:=AC (O.trans (a4.mono O.size));clear a4 L s3 s4 s5 s6 s7 s8 s9 b2;go_wp2;exact ⟨⟨k+1,om,by rw [AB c1];have:=AB HD;go_num,sI,c2⟩,by simp only [intOf];omega⟩
    ·obtain rfl:k=n:=om;have a7:=AB HT k;obtain ⟨D,hD⟩:=xE (A+KS OZ k);rw [<-hD] at HR ⊢;have c3:(D:Int)<=200000000000000000:=om;clear a7 hD;go_wp2;go_ret;exact ⟨by rw [AB HR];rfl,AB O⟩
end Go.Proofs.YtpcjkidgohpeoaaGreatDoor
