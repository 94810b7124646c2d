import Derived.Test.YtdchgbmliojoiaaGreatDoorG03
import Derived.Test.YtdchgbmliojoiaaGreatDoorG04
import Derived.Deep.RegionLaw
set_option maxRecDepth 100000
set_option maxHeartbeats 2000000
set_option linter.unusedVariables false
set_option linter.unusedSimpArgs false
namespace Go.Proofs.YtdchgbmliojoiaaGreatDoor
section
open Go.RowKit
def EU:List Value:=[.int .i64 16,.int .i64 2,.int .u64 2,.int .i64 18,.int .i64 2,.int .u64 243,.int .i64 20,.int .i64 4,.int .u64 1,.int .i64 32,.int .i64 8,.int .u64 64,.int .i64 52,.int .i64 2,.int .u64 64,.int .i64 54,.int .i64 2,.int .u64 56]
theorem cW:(Tryz.prog.info? 325).map (·.size)=some EU.length:=by kernel_rfl
theorem eS (w:World):(Instr.index 325 (.agg EU.toArray) (.int .i64 0)).run Tryz.prog w= .ok (.agg #[.int .i64 16,.int .i64 2,.int .u64 2]) w:=by kernel_rfl
theorem eT (w:World):(Instr.index 325 (.agg EU.toArray) (.int .i64 1)).run Tryz.prog w= .ok (.agg #[.int .i64 18,.int .i64 2,.int .u64 243]) w:=by kernel_rfl
theorem eU (w:World):(Instr.index 325 (.agg EU.toArray) (.int .i64 2)).run Tryz.prog w= .ok (.agg #[.int .i64 20,.int .i64 4,.int .u64 1]) w:=by kernel_rfl
theorem eV (w:World):(Instr.index 325 (.agg EU.toArray) (.int .i64 3)).run Tryz.prog w= .ok (.agg #[.int .i64 32,.int .i64 8,.int .u64 64]) w:=by kernel_rfl
theorem eX (w:World):(Instr.index 325 (.agg EU.toArray) (.int .i64 4)).run Tryz.prog w= .ok (.agg #[.int .i64 52,.int .i64 2,.int .u64 64]) w:=by kernel_rfl
theorem eY (w:World):(Instr.index 325 (.agg EU.toArray) (.int .i64 5)).run Tryz.prog w= .ok (.agg #[.int .i64 54,.int .i64 2,.int .u64 56]) w:=by kernel_rfl
def fOk (B:List Int):Nat->Prop
 |0=>True
 |1=>AW B 16 2=2
 |2=>AW B 16 2=2/\AW B 18 2=243
 |3=>AW B 16 2=2/\AW B 18 2=243/\AW B 20 4=1
 |4=>AW B 16 2=2/\AW B 18 2=243/\AW B 20 4=1/\AW B 32 8=64
 |5=>AW B 16 2=2/\AW B 18 2=243/\AW B 20 4=1/\AW B 32 8=64/\AW B 52 2=64
 |6=>AW B 16 2=2/\AW B 18 2=243/\AW B 20 4=1/\AW B 32 8=64/\AW B 52 2=64/\AW B 54 2=56
 |_=>False
def cX (B:List Int) (w:World) (e:Ending) (w':World):Prop:=∃n:Int,∃ok:Bool,e= .returned (.tuple #[.int .i64 n,.bool ok])/\Below w.heap.size w w'/\(ok=true↔B5 B)/\(B5 B->n=AW B 56 2)
theorem M4 (b off cap:Nat) (B:List Int) (w:World) (hB:AY B) (hcap:B.length<=cap) (hlen:B.length<=1000000) (hv:BC w b off B) (hbw:b<w.heap.size) (ht:w.rangeAt 1 0 EU) (hgw:1<w.heap.size):
  Calls Tryz.prog 121 #[.slice (some (pK b off)) B.length cap] w fun e w'=>cX B w e w':=by
 by_cases h64:64<=B.length
 case neg=>
  have hno:¬B5 B:=fun h=>h64 h.1
  have HN:=AC hno
  clear hv hB hno ht
  go_enter Tryz.func121,Tryz.ntmps121
  go_wp2
  go_ret2
  exact ⟨0,false,rfl,zw _ _,DN (AB HN),fun h=>absurd h (AB HN)⟩
 have hcv:=eD b off cap B w hv (by omega)
 obtain ⟨s7,hs7⟩:∃s7,s7=strOfNums (B.take 7):=⟨_,rfl⟩
 rw [<-hs7] at hcv
 have h7:(7:Int)<=(cap:Int):=by omega
 have h70:¬cap=0:=by omega
 have HT:=AC ht
 have HV:=AC hv
 have HBB:=AC hB
 clear ht hv hB
 by_cases hm:(s7.toList==[127,69,76,70,2,1,1])=true
 case neg=>
  have hm':(s7.toList==[127,69,76,70,2,1,1])=false:=by simpa using hm
  have hno:¬B5 B:=fun h=>hm (by rw [hs7];exact h.2.1)
  have HN:=AC hno
  have HM:=AC hm
  clear hno hm hs7
  go_enter Tryz.func121,Tryz.ntmps121
  go_wp2
  go_ret2
  exact ⟨0,false,rfl,zw _ _,DN (AB HN),fun h=>absurd h (AB HN)⟩
 have hm2:(!s7.toList==[127,69,76,70,2,1,1])=false:=by rw [hm];rfl
 have hmg:Hs B:=by unfold Hs;rw [<-hs7];exact hm
 have HMG:=AC hmg
 clear hm hs7 hmg
 go_enter Tryz.func121,Tryz.ntmps121
 go_wp2_with (refine wpList_load_mid rfl 325 _ rfl 1 0 (by rfl) EU _ (AB HT) Tryz.underlying325 rfl cW ?_)
 go_loopw [17] (fun i wr=>∃k:Nat,k<=6/\i= .int .i64 k/\fOk B k/\Below w.heap.size w wr) (fun i _=>6-(intOf i).toNat)
 case atStart=>exact ⟨0,by omega,rfl,trivial,zw _ _⟩
 case round=>
  obtain ⟨k,hk,rfl,hf,hbl⟩:=hrel
  have HF:=AC hf
  have HBL:=AC hbl
  clear hf hbl
  have hk7:k=0\/k=1\/k=2\/k=3\/k=4\/k=5\/k=6:=by omega
  rcases hk7 with rfl|rfl|rfl|rfl|rfl|rfl|rfl
  ·rw [show ((0:Nat):Int)=(0:Int) from rfl]
   have ti:=eS
   have HBL1:=AC ((AB HBL).alloc (AB HBL).size (.cells #[.int .i64 16,.int .i64 2,.int .u64 2] 324))
   have hb8:=BH (AB HBB) 16 2 (by omega)
   obtain ⟨x,hx⟩:∃x,x=AW B 16 2:=⟨_,rfl⟩
   have HN8:Hid (∀m,Calls Tryz.prog 127 #[.slice (some (pK b off)) B.length cap,.int .i64 16,.int .i64 2] ((wr.alloc (.cells #[.int .i64 16,.int .i64 2,.int .u64 2] 324)).drewN m) fun e w'=>e= .returned (.int .u64 x)/\w'=(wr.alloc (.cells #[.int .i64 16,.int .i64 2,.int .u64 2] 324)).drewN m):=AC (fun m=>by
    rw [hx]
    exact CJ b off cap B 16 2 _ (AB HBB) (by omega) (by omega) (by omega) hcap hlen (fun j hj=>by rw [World.cell?_drewN];exact ((AB HV).below (AB HBL1) hbw) j hj))
   have HX:=AC hx
   clear hx
   by_cases hxe:x=2
   ·have f:(x !=2)=false:=by simpa using hxe
    have HXE:Hid (AW B 16 2=2):=AC (by rw [<-AB HX];exact hxe)
    clear hxe hb8
    go_wp2_with fail
    go_quiet ((go_at_call 127;exact Calls.quiet_of_same (AB HN8 _)))
    go_wp2
    go_roundw
    case rel=>exact ⟨1,by omega,rfl,AB HXE,⟨(AB HBL1).os,(AB HBL1).tape,(AB HBL1).output,(AB HBL1).size,(AB HBL1).block⟩⟩
    case measure=>simp [intOf]
   ·have f:(x !=2)=true:=by simpa using hxe
    have hno:¬B5 B:=fun h=>hxe (by rw [AB HX];exact h.2.2.1)
    have HN:=AC hno
    clear hxe hb8 hno
    go_wp2_with fail
    go_quiet ((go_at_call 127;exact Calls.quiet_of_same (AB HN8 _)))
    go_wp2
    go_ret2
    exact ⟨0,false,rfl,⟨(AB HBL1).os,(AB HBL1).tape,(AB HBL1).output,(AB HBL1).size,(AB HBL1).block⟩,DN (AB HN),fun h=>absurd h (AB HN)⟩
  ·rw [show ((1:Nat):Int)=(1:Int) from rfl]
   have ti:=eT
   have HBL1:=AC ((AB HBL).alloc (AB HBL).size (.cells #[.int .i64 18,.int .i64 2,.int .u64 243] 324))
   have hb8:=BH (AB HBB) 18 2 (by omega)
   obtain ⟨x,hx⟩:∃x,x=AW B 18 2:=⟨_,rfl⟩
   have HN8:Hid (∀m,Calls Tryz.prog 127 #[.slice (some (pK b off)) B.length cap,.int .i64 18,.int .i64 2] ((wr.alloc (.cells #[.int .i64 18,.int .i64 2,.int .u64 243] 324)).drewN m) fun e w'=>e= .returned (.int .u64 x)/\w'=(wr.alloc (.cells #[.int .i64 18,.int .i64 2,.int .u64 243] 324)).drewN m):=AC (fun m=>by
    rw [hx]
    exact CJ b off cap B 18 2 _ (AB HBB) (by omega) (by omega) (by omega) hcap hlen (fun j hj=>by rw [World.cell?_drewN];exact ((AB HV).below (AB HBL1) hbw) j hj))
   have HX:=AC hx
   clear hx
   by_cases hxe:x=243
   ·have f:(x !=243)=false:=by simpa using hxe
    have HXE:Hid (AW B 18 2=243):=AC (by rw [<-AB HX];exact hxe)
    clear hxe hb8
    go_wp2_with fail
    go_quiet ((go_at_call 127;exact Calls.quiet_of_same (AB HN8 _)))
    go_wp2
    go_roundw
    case rel=>exact ⟨2,by omega,rfl,⟨AB HF,AB HXE⟩,⟨(AB HBL1).os,(AB HBL1).tape,(AB HBL1).output,(AB HBL1).size,(AB HBL1).block⟩⟩
    case measure=>simp [intOf]
   ·have f:(x !=243)=true:=by simpa using hxe
    have hno:¬B5 B:=fun h=>hxe (by rw [AB HX];exact h.2.2.2.1)
    have HN:=AC hno
    clear hxe hb8 hno
    go_wp2_with fail
    go_quiet ((go_at_call 127;exact Calls.quiet_of_same (AB HN8 _)))
    go_wp2
    go_ret2
    exact ⟨0,false,rfl,⟨(AB HBL1).os,(AB HBL1).tape,(AB HBL1).output,(AB HBL1).size,(AB HBL1).block⟩,DN (AB HN),fun h=>absurd h (AB HN)⟩
  ·rw [show ((2:Nat):Int)=(2:Int) from rfl]
   have ti:=eU
   have HBL1:=AC ((AB HBL).alloc (AB HBL).size (.cells #[.int .i64 20,.int .i64 4,.int .u64 1] 324))
   have hb8:=BH (AB HBB) 20 4 (by omega)
   obtain ⟨x,hx⟩:∃x,x=AW B 20 4:=⟨_,rfl⟩
   have HN8:Hid (∀m,Calls Tryz.prog 127 #[.slice (some (pK b off)) B.length cap,.int .i64 20,.int .i64 4] ((wr.alloc (.cells #[.int .i64 20,.int .i64 4,.int .u64 1] 324)).drewN m) fun e w'=>e= .returned (.int .u64 x)/\w'=(wr.alloc (.cells #[.int .i64 20,.int .i64 4,.int .u64 1] 324)).drewN m):=AC (fun m=>by
    rw [hx]
    exact CJ b off cap B 20 4 _ (AB HBB) (by omega) (by omega) (by omega) hcap hlen (fun j hj=>by rw [World.cell?_drewN];exact ((AB HV).below (AB HBL1) hbw) j hj))
   have HX:=AC hx
   clear hx
   by_cases hxe:x=1
   ·have f:(x !=1)=false:=by simpa using hxe
    have HXE:Hid (AW B 20 4=1):=AC (by rw [<-AB HX];exact hxe)
    clear hxe hb8
    go_wp2_with fail
    go_quiet ((go_at_call 127;exact Calls.quiet_of_same (AB HN8 _)))
    go_wp2
    go_roundw
    case rel=>exact ⟨3,by omega,rfl,⟨(AB HF).1,(AB HF).2,AB HXE⟩,⟨(AB HBL1).os,(AB HBL1).tape,(AB HBL1).output,(AB HBL1).size,(AB HBL1).block⟩⟩
    case measure=>simp [intOf]
   ·have f:(x !=1)=true:=by simpa using hxe
    have hno:¬B5 B:=fun h=>hxe (by rw [AB HX];exact h.2.2.2.2.1)
    have HN:=AC hno
    clear hxe hb8 hno
    go_wp2_with fail
    go_quiet ((go_at_call 127;exact Calls.quiet_of_same (AB HN8 _)))
    go_wp2
    go_ret2
    exact ⟨0,false,rfl,⟨(AB HBL1).os,(AB HBL1).tape,(AB HBL1).output,(AB HBL1).size,(AB HBL1).block⟩,DN (AB HN),fun h=>absurd h (AB HN)⟩
  ·rw [show ((3:Nat):Int)=(3:Int) from rfl]
   have ti:=eV
   have HBL1:=AC ((AB HBL).alloc (AB HBL).size (.cells #[.int .i64 32,.int .i64 8,.int .u64 64] 324))
   have hb8:=BH (AB HBB) 32 8 (by omega)
   obtain ⟨x,hx⟩:∃x,x=AW B 32 8:=⟨_,rfl⟩
   have HN8:Hid (∀m,Calls Tryz.prog 127 #[.slice (some (pK b off)) B.length cap,.int .i64 32,.int .i64 8] ((wr.alloc (.cells #[.int .i64 32,.int .i64 8,.int .u64 64] 324)).drewN m) fun e w'=>e= .returned (.int .u64 x)/\w'=(wr.alloc (.cells #[.int .i64 32,.int .i64 8,.int .u64 64] 324)).drewN m):=AC (fun m=>by
    rw [hx]
    exact CJ b off cap B 32 8 _ (AB HBB) (by omega) (by omega) (by omega) hcap hlen (fun j hj=>by rw [World.cell?_drewN];exact ((AB HV).below (AB HBL1) hbw) j hj))
   have HX:=AC hx
   clear hx
   by_cases hxe:x=64
   ·have f:(x !=64)=false:=by simpa using hxe
    have HXE:Hid (AW B 32 8=64):=AC (by rw [<-AB HX];exact hxe)
    clear hxe hb8
    go_wp2_with fail
    go_quiet ((go_at_call 127;exact Calls.quiet_of_same (AB HN8 _)))
    go_wp2
    go_roundw
    case rel=>exact ⟨4,by omega,rfl,⟨(AB HF).1,(AB HF).2.1,(AB HF).2.2,AB HXE⟩,⟨(AB HBL1).os,(AB HBL1).tape,(AB HBL1).output,(AB HBL1).size,(AB HBL1).block⟩⟩
    case measure=>simp [intOf]
   ·have f:(x !=64)=true:=by simpa using hxe
    have hno:¬B5 B:=fun h=>hxe (by rw [AB HX];exact h.2.2.2.2.2.1)
    have HN:=AC hno
    clear hxe hb8 hno
    go_wp2_with fail
    go_quiet ((go_at_call 127;exact Calls.quiet_of_same (AB HN8 _)))
    go_wp2
    go_ret2
    exact ⟨0,false,rfl,⟨(AB HBL1).os,(AB HBL1).tape,(AB HBL1).output,(AB HBL1).size,(AB HBL1).block⟩,DN (AB HN),fun h=>absurd h (AB HN)⟩
  ·rw [show ((4:Nat):Int)=(4:Int) from rfl]
   have ti:=eX
   have HBL1:=AC ((AB HBL).alloc (AB HBL).size (.cells #[.int .i64 52,.int .i64 2,.int .u64 64] 324))
   have hb8:=BH (AB HBB) 52 2 (by omega)
   obtain ⟨x,hx⟩:∃x,x=AW B 52 2:=⟨_,rfl⟩
   have HN8:Hid (∀m,Calls Tryz.prog 127 #[.slice (some (pK b off)) B.length cap,.int .i64 52,.int .i64 2] ((wr.alloc (.cells #[.int .i64 52,.int .i64 2,.int .u64 64] 324)).drewN m) fun e w'=>e= .returned (.int .u64 x)/\w'=(wr.alloc (.cells #[.int .i64 52,.int .i64 2,.int .u64 64] 324)).drewN m):=AC (fun m=>by
    rw [hx]
    exact CJ b off cap B 52 2 _ (AB HBB) (by omega) (by omega) (by omega) hcap hlen (fun j hj=>by rw [World.cell?_drewN];exact ((AB HV).below (AB HBL1) hbw) j hj))
   have HX:=AC hx
   clear hx
   by_cases hxe:x=64
   ·have f:(x !=64)=false:=by simpa using hxe
    have HXE:Hid (AW B 52 2=64):=AC (by rw [<-AB HX];exact hxe)
    clear hxe hb8
    go_wp2_with fail
    go_quiet ((go_at_call 127;exact Calls.quiet_of_same (AB HN8 _)))
    go_wp2
    go_roundw
    case rel=>exact ⟨5,by omega,rfl,⟨(AB HF).1,(AB HF).2.1,(AB HF).2.2.1,(AB HF).2.2.2,AB HXE⟩,⟨(AB HBL1).os,(AB HBL1).tape,(AB HBL1).output,(AB HBL1).size,(AB HBL1).block⟩⟩
    case measure=>simp [intOf]
   ·have f:(x !=64)=true:=by simpa using hxe
    have hno:¬B5 B:=fun h=>hxe (by rw [AB HX];exact h.2.2.2.2.2.2.1)
    have HN:=AC hno
    clear hxe hb8 hno
    go_wp2_with fail
    go_quiet ((go_at_call 127;exact Calls.quiet_of_same (AB HN8 _)))
    go_wp2
    go_ret2
    exact ⟨0,false,rfl,⟨(AB HBL1).os,(AB HBL1).tape,(AB HBL1).output,(AB HBL1).size,(AB HBL1).block⟩,DN (AB HN),fun h=>absurd h (AB HN)⟩
  ·rw [show ((5:Nat):Int)=(5:Int) from rfl]
   have ti:=eY
   have HBL1:=AC ((AB HBL).alloc (AB HBL).size (.cells #[.int .i64 54,.int .i64 2,.int .u64 56] 324))
   have hb8:=BH (AB HBB) 54 2 (by omega)
   obtain ⟨x,hx⟩:∃x,x=AW B 54 2:=⟨_,rfl⟩
   have HN8:Hid (∀m,Calls Tryz.prog 127 #[.slice (some (pK b off)) B.length cap,.int .i64 54,.int .i64 2] ((wr.alloc (.cells #[.int .i64 54,.int .i64 2,.int .u64 56] 324)).drewN m) fun e w'=>e= .returned (.int .u64 x)/\w'=(wr.alloc (.cells #[.int .i64 54,.int .i64 2,.int .u64 56] 324)).drewN m):=AC (fun m=>by
    rw [hx]
    exact CJ b off cap B 54 2 _ (AB HBB) (by omega) (by omega) (by omega) hcap hlen (fun j hj=>by rw [World.cell?_drewN];exact ((AB HV).below (AB HBL1) hbw) j hj))
   have HX:=AC hx
   clear hx
   by_cases hxe:x=56
   ·have f:(x !=56)=false:=by simpa using hxe
    have HXE:Hid (AW B 54 2=56):=AC (by rw [<-AB HX];exact hxe)
    clear hxe hb8
    go_wp2_with fail
    go_quiet ((go_at_call 127;exact Calls.quiet_of_same (AB HN8 _)))
    go_wp2
    go_roundw
    case rel=>exact ⟨6,by omega,rfl,⟨(AB HF).1,(AB HF).2.1,(AB HF).2.2.1,(AB HF).2.2.2.1,(AB HF).2.2.2.2,AB HXE⟩,⟨(AB HBL1).os,(AB HBL1).tape,(AB HBL1).output,(AB HBL1).size,(AB HBL1).block⟩⟩
    case measure=>simp [intOf]
   ·have f:(x !=56)=true:=by simpa using hxe
    have hno:¬B5 B:=fun h=>hxe (by rw [AB HX];exact h.2.2.2.2.2.2.2.1)
    have HN:=AC hno
    clear hxe hb8 hno
    go_wp2_with fail
    go_quiet ((go_at_call 127;exact Calls.quiet_of_same (AB HN8 _)))
    go_wp2
    go_ret2
    exact ⟨0,false,rfl,⟨(AB HBL1).os,(AB HBL1).tape,(AB HBL1).output,(AB HBL1).size,(AB HBL1).block⟩,DN (AB HN),fun h=>absurd h (AB HN)⟩
  ·rw [show ((6:Nat):Int)=(6:Int) from rfl]
   have hb8:=BH (AB HBB) 56 2 (by omega)
   have hx16:=KC (AB HBB) 2 56
   have e16:(256:Int)^2=65536:=by decide
   rw [e16] at hx16
   obtain ⟨x,hx⟩:∃x,x=AW B 56 2:=⟨_,rfl⟩
   rw [<-hx] at hx16
   have HN8:Hid (Calls Tryz.prog 127 #[.slice (some (pK b off)) B.length cap,.int .i64 56,.int .i64 2] wr fun e w'=>e= .returned (.int .u64 x)/\w'=wr):=AC (by
    rw [hx]
    exact CJ b off cap B 56 2 _ (AB HBB) (by omega) (by omega) (by omega) hcap hlen ((AB HV).below (AB HBL) hbw))
   have HH:Hid (B5 B↔(1<=x/\x<=8/\64+56*x<=(B.length:Int))):=AC (by
    obtain ⟨r0,r1,r2,r3,r4,r5⟩:=AB HF
    unfold B5
    rw [<-hx]
    constructor
    ·rintro ⟨_,_,_,_,_,_,_,_,h⟩;exact h
    ·intro h;exact ⟨h64,AB HMG,r0,r1,r2,r3,r4,r5,h⟩)
   have HX:=AC hx
   obtain ⟨hx0,hx1⟩:=hx16
   clear hx hb8 e16 HF
   by_cases t6:1<=x
   case neg=>
    have HN:=AC (fun h:B5 B=>t6 ((AB HH).1 h).1)
    go_wp2_with fail
    refine (AB HN8).mono ?_
    rintro e w1 ⟨rfl,hw1⟩
    subst hw1
    go_wp2
    go_ret2
    exact ⟨0,false,rfl,AB HBL,DN (AB HN),fun h=>absurd h (AB HN)⟩
   by_cases t7:x<=8
   case neg=>
    have HN:=AC (fun h:B5 B=>t7 ((AB HH).1 h).2.1)
    go_wp2_with fail
    refine (AB HN8).mono ?_
    rintro e w1 ⟨rfl,hw1⟩
    subst hw1
    go_wp2
    go_ret2
    exact ⟨0,false,rfl,AB HBL,DN (AB HN),fun h=>absurd h (AB HN)⟩
   by_cases t8:64+56*x<=(B.length:Int)
   case neg=>
    have HN:=AC (fun h:B5 B=>t8 ((AB HH).1 h).2.2)
    go_wp2_with fail
    refine (AB HN8).mono ?_
    rintro e w1 ⟨rfl,hw1⟩
    subst hw1
    go_wp2
    go_ret2
    exact ⟨0,false,rfl,AB HBL,DN (AB HN),fun h=>absurd h (AB HN)⟩
   go_wp2_with fail
   refine (AB HN8).mono ?_
   rintro e w1 ⟨rfl,hw1⟩
   subst hw1
   go_wp2
   go_ret2
   exact ⟨x,true,rfl,AB HBL,⟨fun _=>(AB HH).2 ⟨t6,t7,t8⟩,fun _=>rfl⟩,fun _=>AB HX⟩
def JH (s:Seg):Value:= .agg #[.int .i64 s.perm,.int .u64 s.offs,.int .u64 s.addr,.int .u64 s.inFile,.int .u64 s.mem]
def Ul (B:List Int) (p:Nat) (w:World) (e:Ending) (w':World):Prop:=
 (Ff B p/\e= .returned (.tuple #[JH (Dc B p),.bool true])\/¬Ff B p/\∃x0 x1 x2 x3 x4:Int,e= .returned (.tuple #[.agg #[.int .i64 x0,.int .u64 x1,.int .u64 x2,.int .u64 x3,.int .u64 x4],.bool false]))/\Below w.heap.size w w'
theorem Jr (b off cap:Nat) (B:List Int) (k:Nat) (w:World) (hB:AY B) (hcap:B.length<=cap) (hlen:B.length<=500000) (hv:BC w b off B) (hbw:b<w.heap.size) (hp:64+56*k+56<=B.length) (hk:k<=8):
  Calls Tryz.prog 136 #[.slice (some (pK b off)) B.length cap,.int .i64 k] w fun e w'=>Ul B (64+56*k) w e w':=by
 obtain ⟨p,hp0⟩:∃p,p=64+56*k:=⟨_,rfl⟩
 rw [<-hp0] at hp ⊢
 have HBB:=AC hB
 have HV:=AC hv
 obtain ⟨K,hK⟩:∃x,x=AW B (p) 4:=⟨_,rfl⟩
 have bK:=BH hB (p) 4 (by omega)
 have NK:Hid (∀w',BC w' b off B->Calls Tryz.prog 102 #[.slice (some (pK b (off+p))) 4 (cap-p)] w' fun e w''=>e= .returned (.int .u64 K)/\w''=w'):=AC (fun w' h=>by rw [hK];exact BF b (off+p) 4 (cap-p) B (p) w' hB (by omega) (fun j hj=>by rw [show off+p+j=off+(p+j) from by omega];exact h (p+j) (by omega)))
 obtain ⟨P,hP⟩:∃x,x=AW B (p+4) 4:=⟨_,rfl⟩
 have bP:=BH hB (p+4) 4 (by omega)
 have NP:Hid (∀w',BC w' b off B->Calls Tryz.prog 102 #[.slice (some (pK b (off+p+4))) 4 (cap-p-4)] w' fun e w''=>e= .returned (.int .u64 P)/\w''=w'):=AC (fun w' h=>by rw [hP];exact BF b (off+p+4) 4 (cap-p-4) B (p+4) w' hB (by omega) (fun j hj=>by rw [show off+p+4+j=off+(p+4+j) from by omega];exact h (p+4+j) (by omega)))
 obtain ⟨O,hO⟩:∃x,x=AW B (p+8) 8:=⟨_,rfl⟩
 have bO:=BH hB (p+8) 8 (by omega)
 have NO:Hid (∀w',BC w' b off B->Calls Tryz.prog 102 #[.slice (some (pK b (off+p+8))) 8 (cap-p-8)] w' fun e w''=>e= .returned (.int .u64 O)/\w''=w'):=AC (fun w' h=>by rw [hO];exact BF b (off+p+8) 8 (cap-p-8) B (p+8) w' hB (by omega) (fun j hj=>by rw [show off+p+8+j=off+(p+8+j) from by omega];exact h (p+8+j) (by omega)))
 obtain ⟨A,hA⟩:∃x,x=AW B (p+16) 8:=⟨_,rfl⟩
 have bA:=BH hB (p+16) 8 (by omega)
 have NA:Hid (∀w',BC w' b off B->Calls Tryz.prog 102 #[.slice (some (pK b (off+p+16))) 8 (cap-p-16)] w' fun e w''=>e= .returned (.int .u64 A)/\w''=w'):=AC (fun w' h=>by rw [hA];exact BF b (off+p+16) 8 (cap-p-16) B (p+16) w' hB (by omega) (fun j hj=>by rw [show off+p+16+j=off+(p+16+j) from by omega];exact h (p+16+j) (by omega)))
 obtain ⟨F,hF⟩:∃x,x=AW B (p+32) 8:=⟨_,rfl⟩
 have bF:=BH hB (p+32) 8 (by omega)
 have NF:Hid (∀w',BC w' b off B->Calls Tryz.prog 102 #[.slice (some (pK b (off+p+32))) 8 (cap-p-32)] w' fun e w''=>e= .returned (.int .u64 F)/\w''=w'):=AC (fun w' h=>by rw [hF];exact BF b (off+p+32) 8 (cap-p-32) B (p+32) w' hB (by omega) (fun j hj=>by rw [show off+p+32+j=off+(p+32+j) from by omega];exact h (p+32+j) (by omega)))
 obtain ⟨M,hM⟩:∃x,x=AW B (p+40) 8:=⟨_,rfl⟩
 have bM:=BH hB (p+40) 8 (by omega)
 have NM:Hid (∀w',BC w' b off B->Calls Tryz.prog 102 #[.slice (some (pK b (off+p+40))) 8 (cap-p-40)] w' fun e w''=>e= .returned (.int .u64 M)/\w''=w'):=AC (fun w' h=>by rw [hM];exact BF b (off+p+40) 8 (cap-p-40) B (p+40) w' hB (by omega) (fun j hj=>by rw [show off+p+40+j=off+(p+40+j) from by omega];exact h (p+40+j) (by omega)))
 have hok:Ff B p↔(K=1/\Ku P/\1<=M/\F<=M/\O+F<=(B.length:Int)/\O%256=A%256/\A+M<=65024):=by
  rw [hK,hP,hM,hF,hO,hA];rfl
 have hseg:Dc B p=⟨P,O,A,F,M⟩:=by rw [hP,hM,hF,hO,hA];rfl
 rw [<-hP] at bP
 rw [<-hO] at bO
 rw [<-hA] at bA
 rw [<-hF] at bF
 rw [<-hM] at bM
 rw [<-hK] at bK
 have HOK:=AC hok
 have HSG:=AC hseg
 obtain ⟨P0,P1⟩:=bP
 obtain ⟨O0,O1⟩:=bO
 obtain ⟨A0,A1⟩:=bA
 obtain ⟨F0,F1⟩:=bF
 obtain ⟨M0,M1⟩:=bM
 have HBD:=AC (And.intro P1 (And.intro O1 (And.intro A1 (And.intro F1 M1))))
 obtain ⟨q,hq⟩:∃q,q=p+56:=⟨_,rfl⟩
 have e1:(64:Int)+56*(k:Int)=(p:Int):=by omega
 have e2:(p:Int)+56=(q:Int):=by omega
 have hk8:(k:Int)<=8:=by omega
 have hk0:(0:Int)<=(k:Int):=by omega
 have hp1:(p:Int)<=1000:=by omega
 have e3:¬cap=p:=by omega
 have e4:q-p=56:=by omega
 have e5:(p:Int)<=(q:Int):=by omega
 have e6:(q:Int)<=(cap:Int):=by omega
 have e7:p<=q:=by omega
 have e8:q<=cap:=by omega
 have n0:¬cap-p=0:=by omega
 have m0:(4:Int)<=((cap-p:Nat):Int):=by omega
 have n4:¬cap-p=4:=by omega
 have m4:(8:Int)<=((cap-p:Nat):Int):=by omega
 have n8:¬cap-p=8:=by omega
 have m8:(16:Int)<=((cap-p:Nat):Int):=by omega
 have n16:¬cap-p=16:=by omega
 have m16:(24:Int)<=((cap-p:Nat):Int):=by omega
 have n32:¬cap-p=32:=by omega
 have m32:(40:Int)<=((cap-p:Nat):Int):=by omega
 have n40:¬cap-p=40:=by omega
 have m40:(48:Int)<=((cap-p:Nat):Int):=by omega
 have hvB:∀w',Below w.heap.size w w'->BC w' b off B:=fun w' h=>(AB HV).below h hbw
 have HVB:=AC hvB
 have y0:IntKind.u64.wrap (B.length:Int)=(B.length:Int):=by rw [ym];omega
 have HL:=AC (And.intro hcap (And.intro hlen hp))
 clear hB hv hok hseg hP hO hA hF hM hK bK P1 O1 A1 F1 M1 hq hp0 hvB hcap hlen hp
 go_enter Tryz.func136,Tryz.ntmps136
 go_wp2_with fail
 refine (AB NK _ (AB HVB _ (by first|exact (zw _ _).alloc (zx _) _|exact ((zw _ _).alloc (zx _) _).alloc (by simp) _))).mono ?_
 rintro e w1 ⟨rfl,hw1⟩
 subst hw1
 go_wp2_with fail
 refine (AB NP _ (AB HVB _ (by first|exact (zw _ _).alloc (zx _) _|exact ((zw _ _).alloc (zx _) _).alloc (by simp) _))).mono ?_
 rintro e w1 ⟨rfl,hw1⟩
 subst hw1
 go_wp2_with fail
 refine (AB NO _ (AB HVB _ (by first|exact (zw _ _).alloc (zx _) _|exact ((zw _ _).alloc (zx _) _).alloc (by simp) _))).mono ?_
 rintro e w1 ⟨rfl,hw1⟩
 subst hw1
 go_wp2_with fail
 refine (AB NA _ (AB HVB _ (by first|exact (zw _ _).alloc (zx _) _|exact ((zw _ _).alloc (zx _) _).alloc (by simp) _))).mono ?_
 rintro e w1 ⟨rfl,hw1⟩
 subst hw1
 go_wp2_with fail
 refine (AB NF _ (AB HVB _ (by first|exact (zw _ _).alloc (zx _) _|exact ((zw _ _).alloc (zx _) _).alloc (by simp) _))).mono ?_
 rintro e w1 ⟨rfl,hw1⟩
 subst hw1
 go_wp2_with fail
 refine (AB NM _ (AB HVB _ (by first|exact (zw _ _).alloc (zx _) _|exact ((zw _ _).alloc (zx _) _).alloc (by simp) _))).mono ?_
 rintro e w1 ⟨rfl,hw1⟩
 subst hw1
 clear NK NP NO NA NF NM e1 e2 e3 e4 e5 e6 e7 e8 n0 n4 n8 n16 n32 n40 m0 m4 m8 m16 m32 m40 hk8 hk0 hp1
 by_cases t1:K=1
 case neg=>
  have f1:(K !=1)=true:=by simpa using t1
  have T1:=AC t1
  clear t1
  go_wp2
  exact bodyPost_ret (v:= .tuple #[.agg #[.int .i64 0,.int .u64 O,.int .u64 A,.int .u64 F,.int .u64 M],.bool false]) (by simp [results,Tryz.results136,go_sem]) rfl ⟨.inr ⟨fun h=>AB T1 ((AB HOK).1 h).1,0,O,A,F,M,rfl⟩,((zw _ _).alloc (zx _) _).alloc (by simp) _⟩
 have f1:(K !=1)=false:=by simpa using t1
 have T1:=AC t1
 clear t1
 by_cases t2:1<=P
 case neg=>
  go_wp2
  exact bodyPost_ret (v:= .tuple #[.agg #[.int .i64 0,.int .u64 O,.int .u64 A,.int .u64 F,.int .u64 M],.bool false]) (by simp [results,Tryz.results136,go_sem]) rfl ⟨.inr ⟨fun h=>by (have:=((AB HOK).1 h).2.1.1;omega),0,O,A,F,M,rfl⟩,((zw _ _).alloc (zx _) _).alloc (by simp) _⟩
 by_cases t3:P<=7
 case neg=>
  go_wp2
  exact bodyPost_ret (v:= .tuple #[.agg #[.int .i64 0,.int .u64 O,.int .u64 A,.int .u64 F,.int .u64 M],.bool false]) (by simp [results,Tryz.results136,go_sem]) rfl ⟨.inr ⟨fun h=>by (have:=((AB HOK).1 h).2.1.2.1;omega),0,O,A,F,M,rfl⟩,((zw _ _).alloc (zx _) _).alloc (by simp) _⟩
 by_cases t4:bits BinOp.and IntKind.u64 P 3=3
 ·have f4:(bits BinOp.and IntKind.u64 P 3==3)=true:=by simpa using t4
  have T4:=AC t4
  clear t4
  go_wp2
  exact bodyPost_ret (v:= .tuple #[.agg #[.int .i64 0,.int .u64 O,.int .u64 A,.int .u64 F,.int .u64 M],.bool false]) (by simp [results,Tryz.results136,go_sem]) rfl ⟨.inr ⟨fun h=>((AB HOK).1 h).2.1.2.2 (AB T4),0,O,A,F,M,rfl⟩,((zw _ _).alloc (zx _) _).alloc (by simp) _⟩
 have f4:(bits BinOp.and IntKind.u64 P 3==3)=false:=by simpa using t4
 have T4:=AC t4
 clear t4
 by_cases t5:1<=M
 case neg=>
  go_wp2
  exact bodyPost_ret (v:= .tuple #[.agg #[.int .i64 0,.int .u64 O,.int .u64 A,.int .u64 F,.int .u64 M],.bool false]) (by simp [results,Tryz.results136,go_sem]) rfl ⟨.inr ⟨fun h=>by (have:=((AB HOK).1 h).2.2.1;omega),0,O,A,F,M,rfl⟩,((zw _ _).alloc (zx _) _).alloc (by simp) _⟩
 by_cases t6:F<=M
 case neg=>
  go_wp2
  exact bodyPost_ret (v:= .tuple #[.agg #[.int .i64 0,.int .u64 O,.int .u64 A,.int .u64 F,.int .u64 M],.bool false]) (by simp [results,Tryz.results136,go_sem]) rfl ⟨.inr ⟨fun h=>by (have:=((AB HOK).1 h).2.2.2.1;omega),0,O,A,F,M,rfl⟩,((zw _ _).alloc (zx _) _).alloc (by simp) _⟩
 by_cases t7:O<=(B.length:Int)
 case neg=>
  go_wp2
  exact bodyPost_ret (v:= .tuple #[.agg #[.int .i64 0,.int .u64 O,.int .u64 A,.int .u64 F,.int .u64 M],.bool false]) (by simp [results,Tryz.results136,go_sem]) rfl ⟨.inr ⟨fun h=>by (have:=((AB HOK).1 h).2.2.2.2.1;omega),0,O,A,F,M,rfl⟩,((zw _ _).alloc (zx _) _).alloc (by simp) _⟩
 have y1:IntKind.u64.wrap ((B.length:Int)-O)=(B.length:Int)-O:=by rw [ym];have:=AB HL;omega
 by_cases t8:F<=(B.length:Int)-O
 case neg=>
  go_wp2
  exact bodyPost_ret (v:= .tuple #[.agg #[.int .i64 0,.int .u64 O,.int .u64 A,.int .u64 F,.int .u64 M],.bool false]) (by simp [results,Tryz.results136,go_sem]) rfl ⟨.inr ⟨fun h=>by (have:=((AB HOK).1 h).2.2.2.2.1;omega),0,O,A,F,M,rfl⟩,((zw _ _).alloc (zx _) _).alloc (by simp) _⟩
 by_cases t9:O%256=A%256
 case neg=>
  have f9:(O%256 !=A%256)=true:=by simpa using t9
  have T9:=AC t9
  clear t9
  go_wp2
  exact bodyPost_ret (v:= .tuple #[.agg #[.int .i64 0,.int .u64 O,.int .u64 A,.int .u64 F,.int .u64 M],.bool false]) (by simp [results,Tryz.results136,go_sem]) rfl ⟨.inr ⟨fun h=>AB T9 ((AB HOK).1 h).2.2.2.2.2.1,0,O,A,F,M,rfl⟩,((zw _ _).alloc (zx _) _).alloc (by simp) _⟩
 have f9:(O%256 !=A%256)=false:=by simpa using t9
 have T9:=AC t9
 clear t9
 by_cases ta:A<65024
 case neg=>
  go_wp2
  exact bodyPost_ret (v:= .tuple #[.agg #[.int .i64 0,.int .u64 O,.int .u64 A,.int .u64 F,.int .u64 M],.bool false]) (by simp [results,Tryz.results136,go_sem]) rfl ⟨.inr ⟨fun h=>by (have:=((AB HOK).1 h).2.2.2.2.2.2;omega),0,O,A,F,M,rfl⟩,((zw _ _).alloc (zx _) _).alloc (by simp) _⟩
 have y2:IntKind.u64.wrap (65024-A)=65024-A:=by rw [ym];omega
 by_cases tb:M<=65024-A
 case neg=>
  go_wp2
  exact bodyPost_ret (v:= .tuple #[.agg #[.int .i64 0,.int .u64 O,.int .u64 A,.int .u64 F,.int .u64 M],.bool false]) (by simp [results,Tryz.results136,go_sem]) rfl ⟨.inr ⟨fun h=>by (have:=((AB HOK).1 h).2.2.2.2.2.2;omega),0,O,A,F,M,rfl⟩,((zw _ _).alloc (zx _) _).alloc (by simp) _⟩
 go_wp2
 exact bodyPost_ret (v:= .tuple #[JH ⟨P,O,A,F,M⟩,.bool true]) (by simp [results,Tryz.results136,go_sem,JH]) rfl ⟨.inl ⟨(AB HOK).2 ⟨AB T1,⟨t2,t3,AB T4⟩,t5,t6,by omega,AB T9,by omega⟩,by rw [AB HSG]⟩,((zw _ _).alloc (zx _) _).alloc (by simp) _⟩
end
section
open Go Go.RowKit
theorem Gb {P:Program} {ops:Array Oper} {o:Oper} {a:Act} {w:World} {K:Act->World->Prop} {Q:Exit->Act->World->Prop} {E:Prop} (hgd:o.guard=none) (t e:TypeId) (x:Operand) (ho:o.op= .buildSlice t 1 #[(0,x)])
  (cs:List Value) (hx:a.eval x= .agg cs.toArray) (ie:TypeInfo) (z:Value) (hu:P.underlying t=some (.slice e)) (hie:P.info? e=some ie) (hz:ie.zero=some z) (hs:ie.size=cs.length) (h0:0<cs.length) (h24:cs.length<=2^24) (H:Nat) (hH:w.heap.size=H) (d:Option Tmp) (hd:o.dst=d)
  (h:K (a.put d (.slice (some (pK H 0)) 1 1)) (w.alloc (.cells cs.toArray e))):if Region.wanted o (yielded ops a.tmps)=true then Oper.wp P o a w K Q else E:=by
 have hw:Region.wanted o (yielded ops a.tmps)=true:=by simp [Region.wanted,hgd]
 rw [if_pos hw]
 subst hH hd
 refine wp_buildSlice t e 1 #[(0,x)] ho cs.toArray ie z hu hie hz (by rw [hs];omega) (by rw [hs];omega) ?_ h
 have:=Great.fill_whole (s:=ie.size) (by rw [hs];exact h0) [.agg cs.toArray] ((Array.range (1*ie.size)).map (z.cells[· %z.cells.size]!)) (by simp [Value.cells,hs]) (by simp)
 simpa [hx,Value.cells] using this
theorem Pk {P:Program} {ops:Array Oper} {o:Oper} {a:Act} {w:World} {K:Act->World->Prop} {Q:Exit->Act->World->Prop} {E:Prop} (hgd:o.guard=none) (ty:TypeId) (x:Operand) (ho:o.op= .load ty x) (ad:Addr) (hx:a.eval x= .pointer (some ad)) (v:Value) (hrun:(Instr.loadAt ty (.pointer (some ad))).run P w= .ok v w) (d:Option Tmp) (hd:o.dst=d) (h:K (a.put d v) w):
  if Region.wanted o (yielded ops a.tmps)=true then Oper.wp P o a w K Q else E:=by
 have hw:Region.wanted o (yielded ops a.tmps)=true:=by simp [Region.wanted,hgd]
 rw [if_pos hw]
 subst hd
 unfold Oper.wp execOp
 simp only [ho,hx,Sem.run_bind,hrun,yk,Sem.run_pure]
 exact h
theorem Om (W:World) (b o:Nat) (cs:List Value) (x:Obj) (h:W.rangeAt b o cs):(W.alloc x).rangeAt b o cs:=World.rangeAt_alloc h x
theorem DQ {W W':World} {row:Option Nat} {b o:Nat} {cs:List Value} (h:W.rangeAt b o cs) (hg:W.grownBy W' row) (hne:some b≠row):W'.rangeAt b o cs:=fun j v hj=>hg.cell (h j v hj) hne
theorem De {P:Program} {ops:Array Oper} {o:Oper} {a:Act} {w w':World} {K:Act->World->Prop} {Q:Exit->Act->World->Prop} {E:Prop} (hgd:o.guard=none) (ty:TypeId) (x y:Operand) (ho:o.op= .store ty x y) (ad:Addr) (v:Value) (hx:a.eval x= .pointer (some ad)) (hy:a.eval y=v) (hrun:(Instr.storeAt ty (.pointer (some ad)) v).run P w= .ok () w') (hd:o.dst=none) (h:K a w'):
  if Region.wanted o (yielded ops a.tmps)=true then Oper.wp P o a w K Q else E:=by
 have hw:Region.wanted o (yielded ops a.tmps)=true:=by simp [Region.wanted,hgd]
 rw [if_pos hw]
 unfold Oper.wp execOp
 simp only [ho,hx,hy,Sem.run_bind,hrun,yk,Sem.run_pure]
 rw [Oper.upon_skip,hd]
 exact h
theorem BA {P:Program} {C:Code} {Q:Exit->Act->World->Prop} {a:Act} {w:World} (h:∀A:Act,A=a->Code.wp P C Q A w):Code.wp P C Q a w:=h a rfl
theorem AK {P:Program} {ops:Array Oper} {S:World->Prop} {o:Oper} {A:Act} (hg:o.guard=none) (x:Operand) (ho:o.op= .move x) (v:Value) (h:A.eval x=v):YieldsIf P ops S o v A:=
 .inl ⟨by simp [Region.wanted,hg],fun w _=>by simp only [execOp,ho,h];rfl⟩
theorem AX {P:Program} {ops:Array Oper} {S:World->Prop} {o:Oper} {A:Act} (hg:o.guard=none) (x:Operand) (ho:o.op= .nilCheck x) (ad:Addr) (h:A.eval x= .pointer (some ad)):YieldsIf P ops S o (.pointer (some ad)) A:=
 .inl ⟨by simp [Region.wanted,hg],fun w _=>by simp only [execOp,ho,h];rfl⟩
theorem Ka {ops:Array Oper} {S:World->Prop} {o:Oper} {A:Act} (hg:o.guard=none) (x:Operand) (ho:o.op= .fieldAddr 87 x 1) (b:Nat) (h:A.eval x= pq b 0):YieldsIf Tryz.prog ops S o (pq b 5) A:=
 .inl ⟨by simp [Region.wanted,hg],fun w _=>by simp only [execOp,ho,h];go_simp⟩
theorem GJ {P:Program} {ops:Array Oper} {Q:Exit->Act->World->Prop} {md:Region.Mode} {S:World->Prop} {i:Nat} {oi:Oper} {v:Value} {fuel:Nat} {listed:Array Bool} {a:Act} {w:World} (d:Option Tmp) (hi:ops[i]? =some oi) (hd:oi.dst=d)
  (hs:Region.noSelect ops=true) (hf:Region.free md ops listed i=true) (hr:(Region.ready md ops listed).contains i=true)
  (hQ:∀c a w,Q (.panic c) (a.put d v) w->Q (.panic c) a w) (hy:YieldsIf P ops S oi v a) (hS:S w)
  (h:wpAnyH P md ops Q S fuel (listed.setIfInBounds i true) (a.put d v) w):wpAnyH P md ops Q S (fuel+1) listed a w:=by
 subst hd
 exact wpAnyH_take hi hs hf hr hQ hy hS h
theorem tk {P:Program} {ops:Array Oper} {Q:Exit->Act->World->Prop} {md:Region.Mode} {S:World->Prop} (i:Nat) {oi:Oper} {v:Value} {fuel:Nat} {listed:Array Bool} {a:Act} {w:World} (d:Option Tmp) (hi:ops[i]? =some oi) (hd:oi.dst=d)
  (hc:(Region.noSelect ops&&Region.free md ops listed i&&(Region.ready md ops listed).contains i)=true) (hQ:∀c a w,Q (.panic c) (a.put d v) w->Q (.panic c) a w) (hy:YieldsIf P ops S oi v a) (hS:S w)
  (h:wpAnyH P md ops Q S fuel (listed.setIfInBounds i true) (a.put d v) w):wpAnyH P md ops Q S (fuel+1) listed a w:=by
 simp only [Bool.and_eq_true] at hc
 exact GJ d hi hd hc.1.1 hc.1.2 hc.2 hQ hy hS h
theorem rdy {P:Program} {ops:Array Oper} {Q:Exit->Act->World->Prop} {md:Region.Mode} {S:World->Prop} {fuel:Nat} {listed:Array Bool} {a:Act} {w:World} (rs:List Nat) (hc:(Region.ready md ops listed==rs&& !rs.isEmpty)=true) (h:AllReadyH P md ops Q S fuel listed a w rs):wpAnyH P md ops Q S (fuel+1) listed a w:=by
 simp only [Bool.and_eq_true,beq_iff_eq,Bool.not_eq_true'] at hc
 exact wpAnyH_ready hc.1 (fun e=>by rw [e] at hc;exact absurd hc.2 (by simp)) h
theorem DZ {A:Act} {d:Nat} {v:Value} (h:d<A.tmps.size):(A.put (some d) v).eval (.tmp d)=v:=by simp [Act.put,Act.eval,h]
theorem BU {A:Act} {d e:Nat} {v:Value} (h:d≠e):(A.put (some d) v).eval (.tmp e)=A.eval (.tmp e):=by simp [Act.put,Act.eval,Array.getElem?_setIfInBounds_ne h]
theorem AE {A:Act} {d:Option Nat} {v:Value}:(A.put d v).tmps.size=A.tmps.size:=by cases d<;>simp [Act.put]
theorem AF {A:Act} {d e:Nat} {v:Value}:(A.put (some d) v).eval (.tmp e)=if d=e/\d<A.tmps.size then v else A.eval (.tmp e):=by
 by_cases h:d=e
 ·subst h
  by_cases hs:d<A.tmps.size
  ·rw [if_pos ⟨rfl,hs⟩];exact DZ hs
  ·rw [if_neg (fun h=>hs h.2)];simp [Act.put,Act.eval,hs]
 ·rw [if_neg (fun x=>h x.1)];exact BU h
theorem Bj {P:Program} {ops:Array Oper} {S:World->Prop} {o:Oper} {A:Act} (hg:o.guard=none) {v:Value} (hrun:∀w',S w'->(execOp A.eval o).run P w'= .ok (.value v) w'):YieldsIf P ops S o v A:=
 .inl ⟨by simp [Region.wanted,hg],hrun⟩
theorem AQ {P:Program} {ops:Array Oper} {S:World->Prop} {o:Oper} {A:Act} (hg:o.guard=none) (ty:TypeId) (x:Operand) (ho:o.op= .load ty x) (ad:Addr) (hx:A.eval x= .pointer (some ad)) (v:Value) (hrun:∀w',S w'->(Instr.loadAt ty (.pointer (some ad))).run P w'= .ok v w'):YieldsIf P ops S o v A:=
 Bj hg fun w' hS=>by simp only [execOp,ho,hx,Sem.run_bind,hrun w' hS,yk,Sem.run_pure]
theorem BM {P:Program} {ops:Array Oper} {S:World->Prop} {o:Oper} {A:Act} (hg:o.guard=none) (t:TypeId) (x y:Operand) (ho:o.op= .indexAddr t x y) (vx vy:Value) (hx:A.eval x=vx) (hy:A.eval y=vy) (v:Value) (hrun:∀w',(Instr.indexAt t vx vy).run P w'= .ok v w'):YieldsIf P ops S o v A:=
 Bj hg fun w' hS=>by simp only [execOp,ho,hx,hy,Sem.run_bind,hrun w',yk,Sem.run_pure]
theorem AO {P:Program} {ops:Array Oper} {S:World->Prop} {o:Oper} {A:Act} (hg:o.guard=none) (s:TypeId) (x:Operand) (f:Nat) (ho:o.op= .fieldAddr s x f) (vx:Value) (hx:A.eval x=vx) (v:Value) (hrun:∀w',(Instr.fieldAt s vx f).run P w'= .ok v w'):YieldsIf P ops S o v A:=
 Bj hg fun w' hS=>by simp only [execOp,ho,hx,Sem.run_bind,hrun w',yk,Sem.run_pure]
theorem Hx {P:Program} {ops:Array Oper} {o:Oper} {a:Act} {w:World} {K:Act->World->Prop} {Q:Exit->Act->World->Prop} {E:Prop} (hgd:o.guard=none) (f n1 n2:Nat) (t1 t2:TypeId)
  (ho:o.op= .call {callee:= .value (.func f),args:=#[.tmp n1,.tmp n2],argTypes:=#[t1,t2]}) (v1 v2:Value) (h1:a.eval (.tmp n1)=v1) (h2:a.eval (.tmp n2)=v2)
  (he:∀args w,(callFunc f args).run P w= .ok (.enter f args) w) (post:Ending->World->Prop) (r:Value) (hp:∀e w',post e w'->e= .returned r) (hc:Calls P f #[v1,v2] w post) (d:Option Tmp) (hd:o.dst=d)
  (h:∀w',post (.returned r) w'->K (a.put d r) w'):
  if Region.wanted o (yielded ops a.tmps)=true then Oper.wp P o a w K Q else E:=by
 have hw:Region.wanted o (yielded ops a.tmps)=true:=by simp [Region.wanted,hgd]
 have h1':a.tmps[n1]?.getD undef=v1:=by rw [<-h1];simp [go_sem]
 have h2':a.tmps[n2]?.getD undef=v2:=by rw [<-h2];simp [go_sem]
 rw [if_pos hw]
 subst hd
 unfold Oper.wp
 simp [execOp,ho,resolve,invoke,h1',h2',Result.andThen,go_sem,he]
 refine hc.mono ?_
 intro e w' hpe
 obtain rfl:=hp e w' hpe
 have:=h w' hpe
 simpa [go_sem] using this
theorem NS {P:Program} {ops:Array Oper} {o:Oper} {a:Act} {w:World} {K:Act->World->Prop} {Q:Exit->Act->World->Prop} {E:Prop} (hgd:o.guard=none) (f n1 n2 n3:Nat) (t1 t2 t3:TypeId)
  (ho:o.op= .call {callee:= .value (.func f),args:=#[.tmp n1,.tmp n2,.tmp n3],argTypes:=#[t1,t2,t3]}) (v1 v2 v3:Value) (h1:a.eval (.tmp n1)=v1) (h2:a.eval (.tmp n2)=v2) (h3:a.eval (.tmp n3)=v3)
  (he:∀args w,(callFunc f args).run P w= .ok (.enter f args) w) (post:Ending->World->Prop) (r:Value) (hp:∀e w',post e w'->e= .returned r) (hc:Calls P f #[v1,v2,v3] w post) (d:Option Tmp) (hd:o.dst=d)
  (h:∀w',post (.returned r) w'->K (a.put d r) w'):
  if Region.wanted o (yielded ops a.tmps)=true then Oper.wp P o a w K Q else E:=by
 have hw:Region.wanted o (yielded ops a.tmps)=true:=by simp [Region.wanted,hgd]
 have h1':a.tmps[n1]?.getD undef=v1:=by rw [<-h1];simp [go_sem]
 have h2':a.tmps[n2]?.getD undef=v2:=by rw [<-h2];simp [go_sem]
 have h3':a.tmps[n3]?.getD undef=v3:=by rw [<-h3];simp [go_sem]
 rw [if_pos hw]
 subst hd
 unfold Oper.wp
 simp [execOp,ho,resolve,invoke,h1',h2',h3',Result.andThen,go_sem,he]
 refine hc.mono ?_
 intro e w' hpe
 obtain rfl:=hp e w' hpe
 have:=h w' hpe
 simpa [go_sem] using this
theorem K7 {ops:Array Oper} {o:Oper} {A:Act} {j d:Nat} {b q:Bool} (hg:o.guard=some (j,b)) (hj:(ops[j]?).bind (·.dst)=some d) (hd:d<A.tmps.size) (hv:A.eval (.tmp d)= .bool q):Region.wanted o (yielded ops A.tmps)=(q==b):=by
 have h1:A.tmps[d]? =some (.bool q):=by
  have:A.tmps.getD d undef= .bool q:=hv
  rw [Array.getD_eq_getD_getElem?,Array.getElem?_eq_getElem hd] at this
  rw [Array.getElem?_eq_getElem hd]
  exact congrArg some this
 have h2:yielded ops A.tmps j=some q:=by
  unfold yielded
  rw [hj]
  simp only [Option.bind_some,h1]
 unfold Region.wanted
 rw [hg]
 show (yielded ops A.tmps j==some b)=(q==b)
 rw [h2]
 cases q<;>cases b<;>rfl
theorem Is {P:Program} {ops:Array Oper} {S:World->Prop} {o:Oper} {A:Act} (hg:o.guard=none) (c x y:Operand) (ho:o.op= .pick c x y) (b:Bool) (v:Value) (hc:A.eval c= .bool b) (h:(if b=true then A.eval x else A.eval y)=v):YieldsIf P ops S o v A:=
 .inl ⟨by simp [Region.wanted,hg],fun w _=>by
  simp only [execOp,ho,hc]
  cases b with
  |true=>rw [if_pos rfl] at h;rw [<-h];rfl
  |false=>rw [if_neg (by decide)] at h;rw [<-h];rfl⟩
theorem Da {P:Program} {ops:Array Oper} {S:World->Prop} {o:Oper} {A:Act} {v:Value} (j d:Nat) (hg:o.guard=some (j,true)) (hj:(ops[j]?).bind (·.dst)=some d) (hd:d<A.tmps.size) (hv:A.eval (.tmp d)= .bool true) (h:YieldsIf P ops S {o with guard:=none} v A):YieldsIf P ops S o v A:=by
 rcases h with ⟨_,h⟩|⟨h,_⟩
 ·exact .inl ⟨K7 hg hj hd hv,h⟩
 ·exact absurd h (by simp [Region.wanted])
theorem Cy {P:Program} {ops:Array Oper} {S:World->Prop} {o:Oper} {A:Act} (j d:Nat) (hg:o.guard=some (j,true)) (hj:(ops[j]?).bind (·.dst)=some d) (hd:d<A.tmps.size) (hv:A.eval (.tmp d)= .bool false):YieldsIf P ops S o undef A:=
 .inr ⟨K7 hg hj hd hv,rfl⟩
theorem B7 {P:Program} {ops:Array Oper} {S:World->Prop} {o:Oper} {A:Act} (hg:o.guard=none) (op:BinOp) (t t2:TypeId) (x y:Operand) (ho:o.op= .binOp op t x y t2) (vx vy:Value) (hx:A.eval x=vx) (hy:A.eval y=vy) (v:Value) (hrun:∀w',((do eqGuard op t x y vx vy;binOp op t vx vy:Sem Value)).run P w'= .ok v w'):YieldsIf P ops S o v A:=
 Bj hg fun w' hS=>by
  have:=hrun w'
  simp only [execOp,ho,hx,hy]
  simp only [Sem.run_bind] at this ⊢
  rw [this]
  rfl
theorem Ct {P:Program} {ops:Array Oper} {S:World->Prop} {o:Oper} {A:Act} (hg:o.guard=none) (x:Operand) (ho:o.op= .assign x) (v:Value) (h:A.eval x=v):YieldsIf P ops S o v A:=
 .inl ⟨by simp [Region.wanted,hg],fun w _=>by simp only [execOp,ho,h];rfl⟩
theorem It {P:Program} {ops:Array Oper} {S:World->Prop} {o:Oper} {A:Act} (hg:o.guard=none) (t u:TypeId) (x:Operand) (ho:o.op= .convert t u x) (vx:Value) (hx:A.eval x=vx) (v:Value) (hrun:∀w',(convert t u vx).run P w'= .ok v w'):YieldsIf P ops S o v A:=
 Bj hg fun w' hS=>by simp only [execOp,ho,hx,Sem.run_bind,hrun w',yk,Sem.run_pure]
theorem Ef {P:Program} {md:Region.Mode} {ops:Array Oper} {Q:Exit->Act->World->Prop} {S:World->Prop} {fuel:Nat} {listed:Array Bool} {a:Act} {w:World} (h:∀A:Act,A=a->wpAnyH P md ops Q S fuel listed A w):wpAnyH P md ops Q S fuel listed a w:=h a rfl
theorem Qe {P:Program} {ops:Array Oper} {S:World->Prop} {o:Oper} {A:Act} (hg:o.guard=none) (t:TypeId) (x y:Operand) (ho:o.op= .slice t x none (some y) none) (vx vy:Value) (hx:A.eval x=vx) (hy:A.eval y=vy) (v:Value) (hrun:∀w',(Instr.sliceAt t vx none (some vy) none).run P w'= .ok v w'):YieldsIf P ops S o v A:=
 Bj hg fun w' hS=>by simp only [execOp,ho,hx,hy,Option.map_none,Option.map_some,Sem.run_bind,hrun w',yk,Sem.run_pure]
theorem AI {A:Act} (v:Value):A.eval (.const v)=v:=rfl
theorem Bt {P:Program} {ops:Array Oper} {o:Oper} {a:Act} {w:World} {K:Act->World->Prop} {Q:Exit->Act->World->Prop} {E:Prop} (hgd:o.guard=none) (f:Nat) (args:Array Operand) (ts:Array TypeId)
  (ho:o.op= .call {callee:= .value (.func f),args:=args,argTypes:=ts}) (vs:Array Value) (hv:args.map a.eval=vs)
  (he:∀args w,(callFunc f args).run P w= .ok (.enter f args) w) (post:Ending->World->Prop) (hp:∀e w',post e w'->∃r,e= .returned r) (hc:Calls P f vs w post) (d:Option Tmp) (hd:o.dst=d)
  (h:∀r w',post (.returned r) w'->K (a.put d r) w'):
  if Region.wanted o (yielded ops a.tmps)=true then Oper.wp P o a w K Q else E:=by
 have hw:Region.wanted o (yielded ops a.tmps)=true:=by simp [Region.wanted,hgd]
 rw [if_pos hw]
 subst hd
 unfold Oper.wp
 simp [execOp,ho,resolve,invoke,hv,Result.andThen,go_sem,he]
 refine hc.mono ?_
 intro e w' hpe
 obtain ⟨r,rfl⟩:=hp e w' hpe
 have:=h r w' hpe
 simpa [go_sem] using this
def I3 (PS:List Pg) (n:Int):Int:=match PS.findIdx? (fun p=>p.num==n) with|some k=>k|none=> -1
theorem YD {PS:List Pg} {n:Int} {k:Nat} {p:Pg} (hk:PS[k]? =some p) (hp:p.num=n) (hlt:∀(j:Nat) (q:Pg),j<k->PS[j]? =some q->q.num≠n):I3 PS n=k:=by
 have hl:=(zy.1 hk).1
 have:PS.findIdx? (fun p=>p.num==n)=some k:=by
  rw [List.findIdx?_eq_some_iff_getElem]
  refine ⟨hl,?_,fun j hj=> ?_⟩
  ·rw [zz hl] at hk
   rw [zr hk]
   simpa using hp
  ·have:=hlt j PS[j] hj (zz (by omega))
   simpa using this
 unfold I3
 rw [this]
theorem YE {PS:List Pg} {n:Int} (h:∀(j:Nat) (q:Pg),PS[j]? =some q->q.num≠n):I3 PS n= -1:=by
 have:PS.findIdx? (fun p=>p.num==n)=none:=by
  rw [List.findIdx?_eq_none_iff]
  intro x hx
  obtain ⟨j,hj⟩:=List.getElem?_of_mem hx
  simpa using h j x hj
 unfold I3
 rw [this]
theorem Kg (aa:Option Addr) (ga ca:Nat) (PS:List Pg) (n:Int) (w:World) (ha:0<PS.length->aa=some (pK ga 0)) (hA:Dq w ga PS) (hn:PS.length<=100000):
  Calls Tryz.prog 44 #[.slice aa PS.length ca,.int .i64 n] w fun e w'=>e= .returned (.int .i64 (I3 PS n))/\w'.heap=w.heap/\Below w.heap.size w w':=by
 have HA:=AC hA
 have HA1:=AC ha
 clear hA ha
 go_enter Tryz.func44,Tryz.ntmps44
 go_wp2
 go_loopw [5] (fun i wr=>∃k:Nat,k<=PS.length/\i= .int .i64 k/\wr.heap=w.heap/\Below w.heap.size w wr/\∀(j:Nat) (q:Pg),j<k->PS[j]? =some q->q.num≠n) (fun i _=>PS.length-(intOf i).toNat)
 case atStart=>exact ⟨0,by omega,rfl,rfl,zw _ _,fun j q hj=>by omega⟩
 case round=>
  obtain ⟨k,hk,rfl,hh,hbl,hbe⟩:=hrel
  have HH:=AC hh
  have HBL:=AC hbl
  have HBE:=AC hbe
  clear hh hbl hbe
  by_cases hlt:k<PS.length
  ·have e1:=(AB HA1) (by omega)
   subst e1
   obtain ⟨p,hpk⟩:∃p,PS[k]? =some p:=⟨_,zz hlt⟩
   have hcells:∀a,wr.cell? a=w.cell? a:=fun a=>by unfold World.cell?;rw [AB HH]
   obtain ⟨a1,a2,a3⟩:=(AB HA) k p hpk
   rw [<-hcells] at a1
   have HP:=AC hpk
   have hk0:(0:Int)<=(k:Int):=by omega
   have hk1:(k:Int)<(PS.length:Int):=by omega
   clear a2 a3 hcells hpk
   by_cases he:p.num=n
   ·have hq:(p.num==n)=true:=by simpa using he
    have HE:=AC he
    clear he
    go_wp2
    go_ret
    exact ⟨by rw [YD (AB HP) (AB HE) (AB HBE)];rfl,AB HH,AB HBL⟩
   ·have hq:(p.num==n)=false:=by simpa using he
    have HE:=AC he
    clear he
    go_wp2
    go_roundw
    case rel=>exact ⟨k+1,by omega,by go_num,AB HH,AB HBL,fun j q hj hq2=>by
     by_cases hjk:j<k
     ·exact (AB HBE) j q hjk hq2
     ·obtain rfl:j=k:=by omega
      obtain rfl:=zr ((AB HP).symm.trans hq2)
      exact AB HE⟩
    case measure=>simp [intOf];omega
  ·go_wp2
   go_ret
   refine ⟨by rw [YE (fun j q hq=>(AB HBE) j q (by have:=(zy.1 hq).1;omega) hq)];rfl,AB HH,AB HBL⟩
def Do (PS:List Pg) (perm n:Int):Bool:=match PS.find? (fun p=>p.num==n) with|some q=> !(bits .and .i64 q.perm perm==0)|none=>false
def Bs (PS:List Pg) (addr n perm:Int):Bool:=
 if n=0 then true else if n<0\/65536<=addr\/65536-addr<n then false
 else (List.range ((addr+n-1)/256-addr/256+1).toNat).all fun j=>Do PS perm (addr/256+(j:Int))
theorem J1 (PS:List Pg) (n:Int):(I3 PS n= -1/\PS.find? (fun p=>p.num==n)=none)\/∃(k:Nat) (q:Pg),I3 PS n=k/\PS[k]? =some q/\PS.find? (fun p=>p.num==n)=some q/\q.num=n:=by
 unfold I3
 cases h:PS.findIdx? (fun p=>p.num==n) with
 |none=>
  left
  refine ⟨rfl,xv.2 fun x hx=> ?_⟩
  have:=List.findIdx?_eq_none_iff.1 h x hx
  simpa using this
 |some k=>
  right
  obtain ⟨hk,he,hlt⟩:=List.findIdx?_eq_some_iff_getElem.1 h
  refine ⟨k,PS[k],rfl,zz hk,?_,by simpa using he⟩
  refine List.find?_eq_some_iff_getElem.2 ⟨by simpa using he,k,hk,rfl,fun j hj=> ?_⟩
  have:=hlt j hj
  simpa using this
theorem WZ (aa:Option Addr) (ga ca:Nat) (PS:List Pg) (addr n perm:Int) (w:World) (ha:0<PS.length->aa=some (pK ga 0)) (hA:Dq w ga PS) (hn:PS.length<=100000) (h0:0<=addr) (h1:addr<=18446744073709551615) (hn0:1<=n) (hn1:n<=1000000):
  Calls Tryz.prog 43 #[.slice aa PS.length ca,.int .u64 addr,.int .i64 n,.int .i64 perm] w fun e w'=>e= .returned (.bool (Bs PS addr n perm))/\w'.heap=w.heap/\Below w.heap.size w w':=by
 have q1:(n==0)=false:=by simp;omega
 have q2:decide (n<0)=false:=by simp;omega
 have q3:IntKind.u64.wrap n=n:=by simp [IntKind.wrap,IntKind.bits,IntKind.signed];omega
 by_cases hx:65536<=addr
 ·have ho:Bs PS addr n perm=false:=by unfold Bs;rw [if_neg (by omega),if_pos (by omega)]
  have q4:decide (addr>=65536)=true:=decide_eq_true hx
  clear hA ha
  go_enter Tryz.func43,Tryz.ntmps43
  go_wp2
  go_ret
  exact ⟨by first|rfl|(rw [ho];rfl),rfl,zw _ _⟩
 have q4:decide (addr>=65536)=false:=decide_eq_false hx
 have q5:IntKind.u64.wrap (65536-addr)=65536-addr:=by simp [IntKind.wrap,IntKind.bits,IntKind.signed];omega
 by_cases hy:65536-addr<n
 ·have ho:Bs PS addr n perm=false:=by unfold Bs;rw [if_neg (by omega),if_pos (by omega)]
  have q6:decide (n>65536-addr)=true:=decide_eq_true hy
  clear hA ha
  go_enter Tryz.func43,Tryz.ntmps43
  go_wp2
  go_ret
  exact ⟨by first|rfl|(rw [ho];rfl),rfl,zw _ _⟩
 have q6:decide (n>65536-addr)=false:=decide_eq_false hy
 have q7:wrap64 addr=addr:=by unfold wrap64;omega
 have q8:wrap64 (wrap64 addr+n)=addr+n:=by rw [q7];unfold wrap64;omega
 have q9:wrap64 (addr+n-1)=addr+n-1:=by unfold wrap64;omega
 have qa:0<=addr+n-1:=by omega
 obtain ⟨lo,hlo⟩:∃lo,lo=addr/256:=⟨_,rfl⟩
 obtain ⟨hi,hhi⟩:∃hi,hi=(addr+n-1)/256:=⟨_,rfl⟩
 obtain ⟨K,hK⟩:∃K:Nat,K=(hi-lo+1).toNat:=⟨_,rfl⟩
 have hmay:Bs PS addr n perm=(List.range K).all fun j=>Do PS perm (lo+(j:Int)):=by
  unfold Bs
  rw [if_neg (by omega),if_neg (by omega),hK,hlo,hhi]
 have qb:(wrap64 addr).tdiv 256=lo:=by rw [q7,hlo,Int.tdiv_eq_ediv_of_nonneg h0]
 have qc:(addr+n-1).tdiv 256=hi:=by rw [hhi,Int.tdiv_eq_ediv_of_nonneg qa]
 have qd:wrap64 lo=lo:=by rw [hlo];unfold wrap64;omega
 have qe:wrap64 hi=hi:=by rw [hhi];unfold wrap64;omega
 have HF:=AC (fun (m:Int) (w':World) (hh:w'.heap=w.heap)=>Kg aa ga ca PS m w' ha (fun i p hp=>by
  have hc:∀a,w'.cell? a=w.cell? a:=fun a=>by unfold World.cell?;rw [hh]
  obtain ⟨a1,a2,a3⟩:=hA i p hp
  exact ⟨by rw [hc];exact a1,by rw [hc];exact a2,fun j v hv=>by rw [hc];exact a3 j v hv⟩) hn)
 have HA:=AC hA
 have HA1:=AC ha
 have HL:=AC (And.intro (show (K:Int)=hi-lo+1 by omega) (show 0<=lo/\lo<=hi/\hi<=256 by omega))
 have HM:=AC hmay
 have HQ:=AC (And.intro qd qe)
 clear hmay hK hlo hhi hA ha hx hy h1 qd qe q7
 go_enter Tryz.func43,Tryz.ntmps43
 go_wp2
 go_loopw [10] (fun i wr=>∃k:Nat,k<=K/\i= .int .i64 (lo+k)/\wr.heap=w.heap/\Below w.heap.size w wr/\∀j:Nat,j<k->Do PS perm (lo+(j:Int))=true) (fun i _=>K-((intOf i)-lo).toNat)
 case atStart=>exact ⟨0,by omega,by simp [(AB HQ).1],rfl,zw _ _,fun j hj=>by omega⟩
 case round=>
  obtain ⟨k,hk,rfl,hh,hbl,hbe⟩:=hrel
  obtain ⟨hl1,hl2,hl3,hl4⟩:=AB HL
  have HBE:=AC hbe
  clear hbe
  by_cases hlt:k<K
  ·have r1:decide (lo+(k:Int)<=wrap64 hi)=true:=decide_eq_true (by rw [(AB HQ).2];omega)
   have HN:=AC (show wrap64 (lo+(k:Int)+1)=lo+((k+1:Nat):Int) by
     have:wrap64 (lo+(k:Int)+1)=lo+(k:Int)+1:=by unfold wrap64;omega
     rw [this];omega)
   have HK:=AC (And.intro hlt hl1)
   have HF1:=AC ((AB HF) (lo+(k:Int)) wr hh)
   have HH:=AC hh
   have HBL:=AC hbl
   clear hlt hl1 hl2 hl3 hl4 hk hh hbl
   go_wp2_with fail
   refine (AB HF1).mono ?_
   rintro e w1 ⟨rfl,hh1,hb1⟩
   have HB1:=AC (show Below w.heap.size w w1 from (AB HBL).trans (hb1.mono (AB HBL).size))
   have HH1:=AC (show w1.heap=w.heap from hh1.trans (AB HH))
   clear hb1
   rcases J1 PS (lo+(k:Int)) with ⟨c1,c2⟩|⟨m,q,c1,c2,c3,c4⟩
   ·rw [c1]
    have HO:=AC (show Bs PS addr n perm=false by
     rw [AB HM,List.all_eq_false]
     exact ⟨k,zg.2 (AB HK).1,by unfold Do;rw [c2];simp⟩)
    clear c1 c2 hh1
    go_wp2
    go_ret
    exact ⟨by first|rfl|(rw [AB HO];rfl),AB HH1,AB HB1⟩
   ·rw [c1]
    have hml:=(zy.1 c2).1
    have e1:=(AB HA1) (by omega)
    subst e1
    have a2:=((AB HA) m q c2).2.1
    have hc:∀a,w1.cell? a=w.cell? a:=fun a=>by unfold World.cell?;rw [AB HH1]
    rw [<-hc] at a2
    have hm0:(0:Int)<=(m:Int):=by omega
    have hm1:(m:Int)<(PS.length:Int):=by omega
    have hm2:decide ((m:Int)<0)=false:=decide_eq_false (by omega)
    have HPM:=AC (show Do PS perm (lo+(k:Int))= !(bits .and .i64 q.perm perm==0) by unfold Do;rw [c3])
    clear hc c1 c2 c3 c4 hml hh1
    by_cases hz:(bits .and .i64 q.perm perm==0)=true
    ·have HO:=AC (show Bs PS addr n perm=false by
      rw [AB HM,List.all_eq_false]
      exact ⟨k,zg.2 (AB HK).1,by rw [AB HPM,hz];simp⟩)
     go_wp2
     go_ret
     exact ⟨by first|rfl|(rw [AB HO];rfl),AB HH1,AB HB1⟩
    ·have hz':(bits .and .i64 q.perm perm==0)=false:=by simpa using hz
     have HZ:=AC hz'
     clear hz
     go_wp2
     go_roundw
     case rel=>exact ⟨k+1,(AB HK).1,by first|(rw [AB HN])|(simp only [Value.int.injEq,true_and];exact AB HN)|go_num,AB HH1,AB HB1,fun j hj=>by
      by_cases hjk:j<k
      ·exact (AB HBE) j hjk
      ·obtain rfl:j=k:=by omega
       rw [AB HPM,AB HZ];rfl⟩
     case measure=>have:=AB HK;have:=AB HN;simp [intOf];omega
  ·have r1:decide (lo+(k:Int)<=wrap64 hi)=false:=decide_eq_false (by rw [(AB HQ).2];omega)
   have HO:=AC (show Bs PS addr n perm=true by
    rw [AB HM,zb]
    exact fun j hj=>(AB HBE) j (by have:=zg.1 hj;omega))
   have HH:=AC hh
   have HBL:=AC hbl
   clear hlt hl1 hl2 hl3 hl4 hk hh hbl
   go_wp2
   go_ret
   exact ⟨by first|rfl|(rw [AB HO];rfl),AB HH,AB HBL⟩
end
end Go.Proofs.YtdchgbmliojoiaaGreatDoor
