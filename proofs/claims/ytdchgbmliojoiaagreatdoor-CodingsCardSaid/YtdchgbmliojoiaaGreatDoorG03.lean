import Derived.Test.YtdchgbmliojoiaaGreatDoorG02
set_option maxRecDepth 100000
set_option maxHeartbeats 2000000
set_option linter.unusedVariables false
set_option linter.unusedSimpArgs false
namespace Go.Proofs.YtdchgbmliojoiaaGreatDoor
open Go.RowKit
structure Seg where
 perm:Int
 offs:Int
 addr:Int
 inFile:Int
 mem:Int
def Dc (B:List Int) (p:Nat):Seg:=⟨AW B (p+4) 4,AW B (p+8) 8,AW B (p+16) 8,AW B (p+32) 8,AW B (p+40) 8⟩
def Ku (P:Int):Prop:=1<=P/\P<=7/\bits BinOp.and IntKind.u64 P 3≠3
def Ff (B:List Int) (p:Nat):Prop:=AW B p 4=1/\Ku (Dc B p).perm/\1<=(Dc B p).mem/\(Dc B p).inFile<=(Dc B p).mem/\(Dc B p).offs+(Dc B p).inFile<=(B.length:Int)/\
 (Dc B p).offs%256=(Dc B p).addr%256/\(Dc B p).addr+(Dc B p).mem<=65024
theorem Mf (s c e:Int) (w:World) (hs:0<=s) (hc:0<=c) (h:s+c<=e) (he:e<1000000):Calls Tryz.prog 211 #[.int .u64 s,.int .u64 c,.int .u64 e] w fun r w'=>r= .returned (.bool true)/\w'=w:=by
 have h1:c<=e:=by omega
 have h2:s<=e-c:=by omega
 have h3:IntKind.u64.wrap (e-c)=e-c:=by rw [ym];omega
 go_enter Tryz.func211,Tryz.ntmps211
 go_wp2
 go_ret
 exact ⟨rfl,rfl⟩
theorem PQ (s c e:Int) (w:World) (hs:0<=s) (hc:0<=c) (h:e<s+c) (he:e<1000000) (he0:0<=e):Calls Tryz.prog 211 #[.int .u64 s,.int .u64 c,.int .u64 e] w fun r w'=>r= .returned (.bool false)/\w'=w:=by
 by_cases h1:c<=e
 ·have h2:¬s<=e-c:=by omega
  have h3:IntKind.u64.wrap (e-c)=e-c:=by rw [ym];omega
  go_enter Tryz.func211,Tryz.ntmps211
  go_wp2
  go_ret
  exact ⟨rfl,rfl⟩
 ·go_enter Tryz.func211,Tryz.ntmps211
  go_wp2
  go_ret
  exact ⟨rfl,rfl⟩
theorem UK (P:Int) (w:World) (h:Ku P):Calls Tryz.prog 210 #[.int .u64 P] w fun r w'=>r= .returned (.bool true)/\w'=w:=by
 obtain ⟨h1,h2,h3⟩:=h
 have h4:(bits BinOp.and IntKind.u64 P 3 !=3)=true:=by simpa using h3
 clear h3
 go_enter Tryz.func210,Tryz.ntmps210
 go_wp2
 go_ret
 exact ⟨rfl,rfl⟩
theorem Wm (P:Int) (w:World) (h:¬Ku P):Calls Tryz.prog 210 #[.int .u64 P] w fun r w'=>r= .returned (.bool false)/\w'=w:=by
 by_cases h1:1<=P
 ·by_cases h2:P<=7
  ·have h3:bits BinOp.and IntKind.u64 P 3=3:=Decidable.byContradiction fun e=>h ⟨h1,h2,e⟩
   have h4:(bits BinOp.and IntKind.u64 P 3 !=3)=false:=by simpa using h3
   clear h3 h
   go_enter Tryz.func210,Tryz.ntmps210
   go_wp2
   go_ret
   exact ⟨rfl,rfl⟩
  ·clear h
   go_enter Tryz.func210,Tryz.ntmps210
   go_wp2
   go_ret
   exact ⟨rfl,rfl⟩
 ·clear h
  go_enter Tryz.func210,Tryz.ntmps210
  go_wp2
  go_ret
  exact ⟨rfl,rfl⟩
def Gl (off cap:Nat) (s:Seg):Nat:=if cap=s.offs.toNat then off else off+s.offs.toNat
def Hh (b off cap:Nat) (s:Seg):Value:= .agg #[.int .u8 s.perm,.int .u64 s.addr,.slice (some (pK b (Gl off cap s))) s.inFile.toNat (cap-s.offs.toNat),.int .i64 (s.addr/256),.int .i64 ((s.addr+s.mem-1)/256)]
def Fr:Value:= .agg #[.int .u8 0,.int .u64 0,.slice none 0 0,.int .i64 0,.int .i64 0]
def cH (b off cap:Nat) (B:List Int) (p:Nat) (w:World) (e:Ending) (w':World):Prop:=
 (Ff B p/\e= .returned (.tuple #[Hh b off cap (Dc B p),.bool true])\/¬Ff B p/\e= .returned (.tuple #[Fr,.bool false]))/\Below w.heap.size w w'
theorem MH (b off cap:Nat) (B:List Int) (p:Nat) (w:World) (hB:AY B) (hcap:B.length<=cap) (hlen:B.length<=500000) (hv:BC w b off B) (hbw:b<w.heap.size) (hp:p+56<=B.length):
  Calls Tryz.prog 170 #[.slice (some (pK b off)) B.length cap,.int .i64 p] w fun e w'=>cH b off cap B p w e w':=by
 have HBB:=AC hB
 have HV:=AC hv
 obtain ⟨a4,ha4⟩:∃a,a=p+4:=⟨_,rfl⟩
 obtain ⟨P,hP⟩:∃x,x=AW B (p+4) 4:=⟨_,rfl⟩
 have bP:=BH hB (p+4) 4 (by omega)
 have NP:Hid (∀w',BC w' b off B->Calls Tryz.prog 127 #[.slice (some (pK b off)) B.length cap,.int .i64 a4,.int .i64 4] w' fun e w''=>e= .returned (.int .u64 P)/\w''=w'):=AC (fun w' h=>by rw [hP,ha4];exact CJ b off cap B (p+4) 4 w' hB (by omega) (by omega) (by omega) (by omega) (by omega) h)
 have e4:(p:Int)+4=(a4:Int):=by omega
 obtain ⟨a8,ha8⟩:∃a,a=p+8:=⟨_,rfl⟩
 obtain ⟨O,hO⟩:∃x,x=AW B (p+8) 8:=⟨_,rfl⟩
 have bO:=BH hB (p+8) 8 (by omega)
 have NO:Hid (∀w',BC w' b off B->Calls Tryz.prog 127 #[.slice (some (pK b off)) B.length cap,.int .i64 a8,.int .i64 8] w' fun e w''=>e= .returned (.int .u64 O)/\w''=w'):=AC (fun w' h=>by rw [hO,ha8];exact CJ b off cap B (p+8) 8 w' hB (by omega) (by omega) (by omega) (by omega) (by omega) h)
 have e8:(p:Int)+8=(a8:Int):=by omega
 obtain ⟨a16,ha16⟩:∃a,a=p+16:=⟨_,rfl⟩
 obtain ⟨A,hA⟩:∃x,x=AW B (p+16) 8:=⟨_,rfl⟩
 have bA:=BH hB (p+16) 8 (by omega)
 have NA:Hid (∀w',BC w' b off B->Calls Tryz.prog 127 #[.slice (some (pK b off)) B.length cap,.int .i64 a16,.int .i64 8] w' fun e w''=>e= .returned (.int .u64 A)/\w''=w'):=AC (fun w' h=>by rw [hA,ha16];exact CJ b off cap B (p+16) 8 w' hB (by omega) (by omega) (by omega) (by omega) (by omega) h)
 have e16:(p:Int)+16=(a16:Int):=by omega
 obtain ⟨a32,ha32⟩:∃a,a=p+32:=⟨_,rfl⟩
 obtain ⟨F,hF⟩:∃x,x=AW B (p+32) 8:=⟨_,rfl⟩
 have bF:=BH hB (p+32) 8 (by omega)
 have NF:Hid (∀w',BC w' b off B->Calls Tryz.prog 127 #[.slice (some (pK b off)) B.length cap,.int .i64 a32,.int .i64 8] w' fun e w''=>e= .returned (.int .u64 F)/\w''=w'):=AC (fun w' h=>by rw [hF,ha32];exact CJ b off cap B (p+32) 8 w' hB (by omega) (by omega) (by omega) (by omega) (by omega) h)
 have e32:(p:Int)+32=(a32:Int):=by omega
 obtain ⟨a40,ha40⟩:∃a,a=p+40:=⟨_,rfl⟩
 obtain ⟨M,hM⟩:∃x,x=AW B (p+40) 8:=⟨_,rfl⟩
 have bM:=BH hB (p+40) 8 (by omega)
 have NM:Hid (∀w',BC w' b off B->Calls Tryz.prog 127 #[.slice (some (pK b off)) B.length cap,.int .i64 a40,.int .i64 8] w' fun e w''=>e= .returned (.int .u64 M)/\w''=w'):=AC (fun w' h=>by rw [hM,ha40];exact CJ b off cap B (p+40) 8 w' hB (by omega) (by omega) (by omega) (by omega) (by omega) h)
 have e40:(p:Int)+40=(a40:Int):=by omega
 obtain ⟨K,hK⟩:∃x,x=AW B p 4:=⟨_,rfl⟩
 have bK:=BH hB p 4 (by omega)
 have NK:Hid (∀w',BC w' b off B->Calls Tryz.prog 127 #[.slice (some (pK b off)) B.length cap,.int .i64 p,.int .i64 4] w' fun e w''=>e= .returned (.int .u64 K)/\w''=w'):=AC (fun w' h=>by rw [hK];exact CJ b off cap B p 4 w' hB (by omega) (by omega) (by omega) (by omega) (by omega) h)
 have hok:Ff B p↔(K=1/\Ku P/\1<=M/\F<=M/\O+F<=(B.length:Int)/\O%256=A%256/\A+M<=65024):=by
  rw [hK,hP,hM,hF,hO,hA];rfl
 have hseg:Dc B p=⟨P,O,A,F,M⟩:=by rw [hP,hM,hF,hO,hA];rfl
 rw [<-hP] at bP
 rw [<-hO] at bO
 rw [<-hA] at bA
 rw [<-hF] at bF
 rw [<-hM] at bM
 rw [<-hK] at bK
 have HOK:=AC hok
 have HSG:=AC hseg
 obtain ⟨P0,P1⟩:=bP
 obtain ⟨O0,O1⟩:=bO
 obtain ⟨A0,A1⟩:=bA
 obtain ⟨F0,F1⟩:=bF
 obtain ⟨M0,M1⟩:=bM
 clear hB hv hok hseg hP hO hA hF hM hK ha4 ha8 ha16 ha32 ha40 bK P1 O1 A1 F1 M1
 have hvz:BC (w.alloc (.cells #[.int .u8 0,.int .u64 0,.slice none 0 0,.int .i64 0,.int .i64 0] 270)) b off B:=(AB HV).below ((zw _ _).alloc (zx _) _) hbw
 have HVZ:=AC hvz
 have hl5:(B.length:Int)<1000000:=by omega
 have hl0:(0:Int)<=(B.length:Int):=by omega
 clear hvz
 go_enter Tryz.func170,Tryz.ntmps170
 go_wp2_with fail
 refine (AB NP _ (AB HVZ)).mono ?_
 rintro e w1 ⟨rfl,hw1⟩
 subst hw1
 go_wp2_with fail
 refine (AB NO _ (AB HVZ)).mono ?_
 rintro e w1 ⟨rfl,hw1⟩
 subst hw1
 go_wp2_with fail
 refine (AB NA _ (AB HVZ)).mono ?_
 rintro e w1 ⟨rfl,hw1⟩
 subst hw1
 go_wp2_with fail
 refine (AB NF _ (AB HVZ)).mono ?_
 rintro e w1 ⟨rfl,hw1⟩
 subst hw1
 go_wp2_with fail
 refine (AB NM _ (AB HVZ)).mono ?_
 rintro e w1 ⟨rfl,hw1⟩
 subst hw1
 go_wp2_with fail
 refine (AB NK _ (AB HVZ)).mono ?_
 rintro e w1 ⟨rfl,hw1⟩
 subst hw1
 clear e4 e8 e16 e32 e40 NP NO NA NF NM NK
 have y0:IntKind.u64.wrap (B.length:Int)=(B.length:Int):=by rw [ym];omega
 have HL:=AC (And.intro hl5 (And.intro hl0 (And.intro hcap (And.intro hlen hp))))
 clear hl5 hl0 hcap hlen hp
 by_cases t1:K=1
 case neg=>
  have f1:(K !=1)=true:=by simpa using t1
  have T1:=AC t1
  clear t1
  go_wp2
  exact bodyPost_ret (v:= .tuple #[Fr,.bool false]) (by simp [results,Tryz.results170,go_sem,Fr]) rfl ⟨.inr ⟨fun h=>AB T1 ((AB HOK).1 h).1,rfl⟩,(zw _ _).alloc (zx _) _⟩
 have f1:(K !=1)=false:=by simpa using t1
 have T1:=AC t1
 clear t1
 go_wp2_with fail
 by_cases t2:Ku P
 case neg=>
  refine (Wm P _ t2).mono ?_
  rintro e w1 ⟨rfl,hw1⟩
  subst hw1
  have T2:=AC t2
  clear t2
  go_wp2
  exact bodyPost_ret (v:= .tuple #[Fr,.bool false]) (by simp [results,Tryz.results170,go_sem,Fr]) rfl ⟨.inr ⟨fun h=>AB T2 ((AB HOK).1 h).2.1,rfl⟩,(zw _ _).alloc (zx _) _⟩
 refine (UK P _ t2).mono ?_
 rintro e w1 ⟨rfl,hw1⟩
 subst hw1
 have T2:=AC t2
 have P7:P<=7:=t2.2.1
 clear t2
 by_cases t3:1<=M
 case neg=>
  have f3:(M==0)=true:=by simp;omega
  go_wp2
  exact bodyPost_ret (v:= .tuple #[Fr,.bool false]) (by simp [results,Tryz.results170,go_sem,Fr]) rfl ⟨.inr ⟨fun h=>by (have:=((AB HOK).1 h).2.2.1;omega),rfl⟩,(zw _ _).alloc (zx _) _⟩
 have f3:(M==0)=false:=by simp;omega
 by_cases t4:F<=M
 case neg=>
  go_wp2
  exact bodyPost_ret (v:= .tuple #[Fr,.bool false]) (by simp [results,Tryz.results170,go_sem,Fr]) rfl ⟨.inr ⟨fun h=>by (have:=((AB HOK).1 h).2.2.2.1;omega),rfl⟩,(zw _ _).alloc (zx _) _⟩
 go_wp2_with fail
 by_cases t5:O+F<=(B.length:Int)
 case neg=>
  refine (PQ O F (B.length:Int) _ O0 F0 (by omega) (AB HL).1 (AB HL).2.1).mono ?_
  rintro e w1 ⟨rfl,hw1⟩
  subst hw1
  go_wp2
  exact bodyPost_ret (v:= .tuple #[Fr,.bool false]) (by simp [results,Tryz.results170,go_sem,Fr]) rfl ⟨.inr ⟨fun h=>by (have:=((AB HOK).1 h).2.2.2.2.1;omega),rfl⟩,(zw _ _).alloc (zx _) _⟩
 refine (Mf O F (B.length:Int) _ O0 F0 t5 (AB HL).1).mono ?_
 rintro e w1 ⟨rfl,hw1⟩
 subst hw1
 by_cases t6:O%256=A%256
 case neg=>
  have f6:(O%256 !=A%256)=true:=by simpa using t6
  have T6:=AC t6
  clear t6
  go_wp2
  exact bodyPost_ret (v:= .tuple #[Fr,.bool false]) (by simp [results,Tryz.results170,go_sem,Fr]) rfl ⟨.inr ⟨fun h=>AB T6 ((AB HOK).1 h).2.2.2.2.2.1,rfl⟩,(zw _ _).alloc (zx _) _⟩
 have f6:(O%256 !=A%256)=false:=by simpa using t6
 have T6:=AC t6
 clear t6
 go_wp2_with fail
 by_cases t7:A+M<=65024
 case neg=>
  refine (PQ A M 65024 _ A0 M0 (by omega) (by omega) (by omega)).mono ?_
  rintro e w1 ⟨rfl,hw1⟩
  subst hw1
  go_wp2
  exact bodyPost_ret (v:= .tuple #[Fr,.bool false]) (by simp [results,Tryz.results170,go_sem,Fr]) rfl ⟨.inr ⟨fun h=>by (have:=((AB HOK).1 h).2.2.2.2.2.2;omega),rfl⟩,(zw _ _).alloc (zx _) _⟩
 refine (Mf A M 65024 _ A0 M0 t7 (by omega)).mono ?_
 rintro e w1 ⟨rfl,hw1⟩
 subst hw1
 obtain ⟨o,rfl⟩:=Int.eq_ofNat_of_zero_le O0
 obtain ⟨f,rfl⟩:=Int.eq_ofNat_of_zero_le F0
 obtain ⟨hl5,hl0,hcap,hlen,hp⟩:=AB HL
 obtain ⟨q,hq⟩:∃q,q=o+f:=⟨_,rfl⟩
 have g1:(o:Int)+(f:Int)=(q:Int):=by omega
 have g3:q-o=f:=by omega
 have g4:o<=q:=by omega
 have g5:q<=cap:=by omega
 have g6:(q:Int)<=(cap:Int):=by omega
 have g7:(o:Int)<=(q:Int):=by omega
 have g8:(q:Int)<1000000:=by omega
 clear hq f6 f1
 by_cases g2:cap=o
 ·go_wp2
  exact bodyPost_ret (v:= .tuple #[Hh b off cap ⟨P,(o:Int),A,(f:Int),M⟩,.bool true]) (by simp [results,Tryz.results170,go_sem,Hh,Gl,g2]) rfl ⟨.inl ⟨(AB HOK).2 ⟨AB T1,AB T2,t3,t4,t5,AB T6,t7⟩,by rw [AB HSG]⟩,(zw _ _).alloc (zx _) _⟩
 go_wp2
 exact bodyPost_ret (v:= .tuple #[Hh b off cap ⟨P,(o:Int),A,(f:Int),M⟩,.bool true]) (by simp [results,Tryz.results170,go_sem,Hh,Gl,g2]) rfl ⟨.inl ⟨(AB HOK).2 ⟨AB T1,AB T2,t3,t4,t5,AB T6,t7⟩,by rw [AB HSG]⟩,(zw _ _).alloc (zx _) _⟩
def Ay (b off cap:Nat) (s:Seg):List Value:=[.int .u8 s.perm,.int .u64 s.addr,.slice (some (pK b (Gl off cap s))) s.inFile.toNat (cap-s.offs.toNat),.int .i64 (s.addr/256),.int .i64 ((s.addr+s.mem-1)/256)]
def Dx:List Value:=[.int .u8 0,.int .u64 0,.slice none 0 0,.int .i64 0,.int .i64 0]
def Be (b off cap:Nat) (ss:List Seg):List Value:=ss.flatMap (Ay b off cap)
def BP (B:List Int) (k:Nat):List Seg:=(List.range k).map fun i=>Dc B (64+56*i)
def DE (b off cap:Nat) (B:List Int) (n k:Nat):List Value:=Be b off cap (BP B k)++(List.replicate (n-k) Dx).flatten
theorem EC (b off cap:Nat) (ss:List Seg):(Be b off cap ss).length=ss.length*5:=by
 unfold Be
 induction ss with
 |nil=>rfl
 |cons s r ih=>rw [List.flatMap_cons,zn,ih];simp [Ay];omega
theorem Ec (B:List Int) (k:Nat):(BP B k).length=k:=by simp [BP]
theorem KD (b off cap:Nat) (s:Seg):∀v∈Ay b off cap s,v.oneCell'=true:=by
 intro v hv
 simp only [Ay,List.mem_cons,List.not_mem_nil,or_false] at hv
 rcases hv with rfl|rfl|rfl|rfl|rfl<;>rfl
theorem QF (m:Nat):(List.replicate m Dx).flatten.length=m*5:=by
 induction m with
 |zero=>rfl
 |succ m ih=>rw [List.replicate_succ,List.flatten_cons,zn,ih];simp [Dx];omega
theorem MI (b off cap:Nat) (B:List Int) (n k:Nat) (h:k<=n):(DE b off cap B n k).length=n*5:=by
 rw [DE,zn,EC,Ec,QF];omega
theorem OU (b off cap:Nat) (B:List Int) (n k:Nat) (h:k<n):splice (DE b off cap B n k) (k*5) (Ay b off cap (Dc B (64+56*k)))=DE b off cap B n (k+1):=by
 have e1:n-k=(n-(k+1))+1:=by omega
 have e2:BP B (k+1)=BP B k++[Dc B (64+56*k)]:=by simp [BP,List.range_succ]
 have hl:(Be b off cap (BP B k)).length=k*5:=by rw [EC,Ec]
 unfold splice DE
 rw [e1,List.replicate_succ,List.flatten_cons,e2,Be,Be,List.flatMap_append]
 change _=(Be b off cap (BP B k)++_)++_
 change List.take _ (Be b off cap (BP B k)++_)++(_++List.drop _ (Be b off cap (BP B k)++_))=_
 rw [yi (by omega),yh (by omega),List.drop_append,List.drop_of_length_le (by omega),hl,
  show k*5+(Ay b off cap (Dc B (64+56*k))).length-k*5=5 from by simp [Ay]]
 simp [Dx]
theorem OW (b off cap:Nat) (B:List Int) (n:Nat):DE b off cap B n n=Be b off cap (BP B n):=by
 rw [DE,Nat.sub_self];simp
theorem OX (b off cap:Nat) (B:List Int) (n:Nat):DE b off cap B n 0=(List.replicate n Dx).flatten:=by
 rw [DE,Nat.sub_zero];rfl
theorem Wn (w:World):(Instr.makeSlice 265 (.int .i64 ((1:Nat):Int)) (.int .i64 ((1:Nat):Int))).run Tryz.prog w= .ok (.slice (some (pK w.heap.size 0)) 1 1) (w.alloc (.cells (List.replicate 1 Dx).flatten.toArray 270)):=by kernel_rfl
theorem Wo (w:World):(Instr.makeSlice 265 (.int .i64 ((2:Nat):Int)) (.int .i64 ((2:Nat):Int))).run Tryz.prog w= .ok (.slice (some (pK w.heap.size 0)) 2 2) (w.alloc (.cells (List.replicate 2 Dx).flatten.toArray 270)):=by kernel_rfl
theorem Wp (w:World):(Instr.makeSlice 265 (.int .i64 ((3:Nat):Int)) (.int .i64 ((3:Nat):Int))).run Tryz.prog w= .ok (.slice (some (pK w.heap.size 0)) 3 3) (w.alloc (.cells (List.replicate 3 Dx).flatten.toArray 270)):=by kernel_rfl
theorem Wq (w:World):(Instr.makeSlice 265 (.int .i64 ((4:Nat):Int)) (.int .i64 ((4:Nat):Int))).run Tryz.prog w= .ok (.slice (some (pK w.heap.size 0)) 4 4) (w.alloc (.cells (List.replicate 4 Dx).flatten.toArray 270)):=by kernel_rfl
theorem Ws (w:World):(Instr.makeSlice 265 (.int .i64 ((5:Nat):Int)) (.int .i64 ((5:Nat):Int))).run Tryz.prog w= .ok (.slice (some (pK w.heap.size 0)) 5 5) (w.alloc (.cells (List.replicate 5 Dx).flatten.toArray 270)):=by kernel_rfl
theorem Wt (w:World):(Instr.makeSlice 265 (.int .i64 ((6:Nat):Int)) (.int .i64 ((6:Nat):Int))).run Tryz.prog w= .ok (.slice (some (pK w.heap.size 0)) 6 6) (w.alloc (.cells (List.replicate 6 Dx).flatten.toArray 270)):=by kernel_rfl
theorem Wu (w:World):(Instr.makeSlice 265 (.int .i64 ((7:Nat):Int)) (.int .i64 ((7:Nat):Int))).run Tryz.prog w= .ok (.slice (some (pK w.heap.size 0)) 7 7) (w.alloc (.cells (List.replicate 7 Dx).flatten.toArray 270)):=by kernel_rfl
theorem Wv (w:World):(Instr.makeSlice 265 (.int .i64 ((8:Nat):Int)) (.int .i64 ((8:Nat):Int))).run Tryz.prog w= .ok (.slice (some (pK w.heap.size 0)) 8 8) (w.alloc (.cells (List.replicate 8 Dx).flatten.toArray 270)):=by kernel_rfl
theorem ZH (w:World) (n:Nat) (h1:1<=n) (h8:n<=8):(Instr.makeSlice 265 (.int .i64 n) (.int .i64 n)).run Tryz.prog w= .ok (.slice (some (pK w.heap.size 0)) n n) (w.alloc (.cells (List.replicate n Dx).flatten.toArray 270)):=by
 have h:n=1\/n=2\/n=3\/n=4\/n=5\/n=6\/n=7\/n=8:=by omega
 rcases h with rfl|rfl|rfl|rfl|rfl|rfl|rfl|rfl
 ·exact Wn w
 ·exact Wo w
 ·exact Wp w
 ·exact Wq w
 ·exact Ws w
 ·exact Wt w
 ·exact Wu w
 ·exact Wv w
theorem cI:(Tryz.prog.info? 270).map (·.size)=some 5:=by kernel_rfl
theorem Er {b:Nat} {t:TypeId}:∀(vs:List Value) (o:Nat) (W:World) (L:List Value),AG W b t L->o+vs.length<=L.length->AG (W.setCells b o vs) b t (splice L o vs)
 |[],o,W,L,h,_=>by rw [EB];exact h
 |v::r,o,W,L,h,hl=>by
  have hl':o+(r.length+1)<=L.length:=hl
  have:=Er r (o+1) _ _ (h.set o v) (by rw [yx];omega)
  rw [World.setCells]
  have e:splice (L.set o v) (o+1) r=splice L o (v::r):=by
   have a:=GE L o [v] 0 v rfl (by simp;omega)
   simp only [List.take_zero,EB,Nat.add_zero,zq] at a
   rw [a,show (List.take 1 [v])=[v] from rfl]
   exact FT L o [v] r (by simp;omega)
  rwa [e] at this
theorem Es {w:World} {b:Nat}:∀(vs:List Value) (o:Nat) (wr:World),w.grownBy wr (some b)->w.grownBy (wr.setCells b o vs) (some b)
 |[],_,_,h=>h
 |v::r,o,wr,h=>Es r (o+1) _ (AS h o v)
theorem LT {W:World} {b:Nat} {t:TypeId} {vs:List Value} (h:AG W b t vs) (o n:Nat) (hn:o+n<=vs.length):W.there b o n:=fun j hj=>
 ⟨by rw [h.cell (zz (show o+j<vs.length by omega))];rfl,h.frozen _⟩
theorem Et {P:Program} {ops:Array Oper} {rest:List Oper} {o:Oper} {a:Act} {w:World} {Q:Exit->Act->World->Prop} (hgd:o.guard=none) (ty:TypeId) (x y:Operand) (ho:o.op= .store ty x y)
  (g off:Nat) (cs:List Value) (hx:a.eval x= pq g off) (hy:a.eval y= .agg cs.toArray)
  (t:TypeId) (old:List Value) (hg:AG w g t old) (hi:(P.info? ty).map (·.size)=some cs.length) (hfit:off+cs.length<=old.length) (h1:∀v∈cs,v.oneCell'=true)
  (h:∀w',Hid (AG w' g t (splice old off cs))->Hid (w.grownBy w' (some g))->wpList P ops Q rest (a.put o.dst undef) w'):wpList P ops Q (o::rest) a w:=by
 refine wpList_store_mid hgd ty x y ho g off cs.toArray hx hy (LT hg _ _ (by simpa using hfit)) (by simpa using hi) (all_oneCell_toArray h1) ?_
 refine h _ (AC (Er cs off _ _ hg hfit)) (AC (Es cs off w ⟨rfl,rfl,rfl,zx _,fun _ _ _=>rfl⟩))
theorem ZI (b off cap:Nat) (s:Seg):(Tryz.prog.info? 270).map (·.size)=some (Ay b off cap s).length:=cI
theorem ZJ {b off cap:Nat} {B:List Int} {n k:Nat} (h:k<n) (s:Seg):k*5+(Ay b off cap s).length<=(DE b off cap B n k).length:=by
 rw [MI _ _ _ _ _ _ (by omega)]
 show k*5+5<=n*5
 omega
theorem Gw {p:Nat->Prop} {k:Nat} (h:∀i,i<k->p i) (hk:p k):∀i,i<k+1->p i:=fun i hi=>by
 rcases Nat.lt_succ_iff_lt_or_eq.1 hi with h'|h'
 ·exact h i h'
 ·rw [h'];exact hk
def ZK (b off cap:Nat) (B:List Int) (n:Nat) (w:World) (e:Ending) (w':World):Prop:=
 ((∀i,i<n->Ff B (64+56*i))/\e= .returned (.tuple #[.slice (some (pK w.heap.size 0)) n n,.bool true])/\AG w' w.heap.size 270 (Be b off cap (BP B n))\/
  (¬∀i,i<n->Ff B (64+56*i))/\e= .returned (.tuple #[.slice none 0 0,.bool false]))/\Below w.heap.size w w'
theorem Kv (b off cap:Nat) (B:List Int) (n:Nat) (w:World) (hB:AY B) (hcap:B.length<=cap) (hlen:B.length<=500000) (hv:BC w b off B) (hbw:b<w.heap.size) (h1:1<=n) (h8:n<=8) (hp:64+56*n<=B.length):
  Calls Tryz.prog 122 #[.slice (some (pK b off)) B.length cap,.int .i64 n] w fun e w'=>ZK b off cap B n w e w':=by
 have hmk:=fun w=>ZH w n h1 h8
 have HB:=AC hB
 have HV:=AC hv
 have HL:=AC (And.intro hcap (And.intro hlen hp))
 clear hB hv hcap hlen hp
 go_enter Tryz.func122,Tryz.ntmps122
 go_wp2
 go_loopw [14] (fun i wr=>∃k:Nat,k<=n/\i= .int .i64 k/\(∀i,i<k->Ff B (64+56*i))/\AG wr w.heap.size 270 (DE b off cap B n k)/\Below w.heap.size w wr) (fun i _=>n-(intOf i).toNat)
 case atStart=>exact ⟨0,by omega,rfl,fun i hi=>by omega,by rw [OX];exact AG.new _ _ _,(zw _ _).alloc (zx _) _⟩
 case round=>
  obtain ⟨k,hk,rfl,hok,hh,hbl⟩:=hrel
  have HOK:=AC hok
  have HH:=AC hh
  have HBL:=AC hbl
  have hgl:=hh.lt
  clear hok hh hbl
  by_cases hlt:k<n
  ·obtain ⟨p,hp⟩:∃p,p=64+56*k:=⟨_,rfl⟩
   have e1:(64:Int)+56*(k:Int)=(p:Int):=by omega
   have hp5:(p:Int)<=600:=by omega
   have hvr:BC wr b off B:=(AB HV).below (AB HBL) hbw
   have HR:=AC (MH b off cap B p wr (AB HB) (AB HL).1 (AB HL).2.1 hvr (by omega) (by have:=(AB HL).2.2;omega))
   have HP:=AC hp
   have hk0:(0:Int)<=(k:Int):=by omega
   have hkn:(k:Int)<(n:Int):=by omega
   have hk8:(k:Int)<=8:=by omega
   clear hp hvr
   go_wp2_with fail
   refine (AB HR).mono ?_
   rintro e w1 ⟨(⟨ok,rfl⟩|⟨nok,rfl⟩),hb1⟩
   ·have hh1:=(AB HH).below hb1 hgl
    have hbl1:=(AB HBL).trans (hb1.mono (AB HBL).size)
    have OK:=AC ok
    have HH1:=AC hh1
    have HBL1:=AC hbl1
    clear ok hh1 hbl1 hb1 HH HBL HR
    unfold Hh
    obtain ⟨sg,hsg⟩:∃s,s=Dc B p:=⟨_,rfl⟩
    rw [<-hsg]
    have hstep:splice (DE b off cap B n k) (k*5) (Ay b off cap sg)=DE b off cap B n (k+1):=by rw [hsg,AB HP];exact OU _ _ _ _ _ _ hlt
    clear hsg
    have HST:=AC hstep
    have hgl1:=(AB HH1).lt
    clear hstep
    go_wp2_with (refine Et rfl 270 (.tmp 30) (.tmp 29) rfl w.heap.size (k*5) (Ay b off cap sg) (by rfl) (by rfl) 270 (DE b off cap B n k) ((AB HH1).alloc _) (ZI b off cap sg) (ZJ hlt sg) (KD b off cap sg) ?_;intro w2 HH2 HG2)
    go_roundw
    case rel=>
     have hba:=(AB HBL1).alloc (Nat.le_of_lt hgl1) (.cells (Ay b off cap sg).toArray 270)
     exact ⟨k+1,by omega,by go_num,Gw (AB HOK) (by rw [<-AB HP];exact AB OK),by rw [<-AB HST];exact AB HH2,hba.trans (Ag (AB HG2) (zx _) hba.size)⟩
    case measure=>simp [intOf];omega
   ·have hbl1:=(AB HBL).trans (hb1.mono (AB HBL).size)
    have hsz1:=hbl1.size
    have HBL1:=AC hbl1
    have NOK:=AC nok
    clear hb1 hbl1 nok HR
    unfold Fr
    go_wp2
    exact bodyPost_ret (v:= .tuple #[.slice none 0 0,.bool false]) (by simp [results,Tryz.results122,go_sem]) rfl ⟨.inr ⟨fun h=>AB NOK (by rw [AB HP];exact h k hlt),rfl⟩,(AB HBL1).alloc hsz1 _⟩
  ·have hkn:k=n:=by omega
   subst hkn
   go_wp2
   exact bodyPost_ret (v:= .tuple #[.slice (some (pK w.heap.size 0)) k k,.bool true]) (by simp [results,Tryz.results122,go_sem]) rfl ⟨.inl ⟨AB HOK,rfl,by rw [<-OW];exact AB HH⟩,AB HBL⟩
end Go.Proofs.YtdchgbmliojoiaaGreatDoor
