import Derived.Test.YtdchgbmliojoiaaGreatDoorG32
set_option maxRecDepth 100000
set_option maxHeartbeats 1000000
set_option linter.unusedVariables false
set_option linter.unusedSimpArgs false
namespace Go.Proofs.YtdchgbmliojoiaaGreatDoor
open Go Go.RowKit
def VS (w:World) (pb co:Nat) (PC x:Int) (n:Nat) (y:Int) (e:Ending) (w':World):Prop:=e= .returned (.int .u64 (IntKind.u64.wrap (PC+4)))/\∃W2,Below w.heap.size w W2/\Fa (CX W2 pb (co+17) x ((A8 y).take n) n) w'
theorem dS {w:World} {pb co:Nat} {f g:Nat->Int} {PC U V op:Int} {a b:Nat} {im:Int} (K:IG w pb co f g PC U V op a b im) (hm:Ae f 4 (IntKind.u64.wrap (V+IntKind.u64.wrap im)) 8=true):Calls Tryz.prog 259 #[pq pb co,.agg #[.int .u8 op,.int .i64 (a:Int),.int .i64 (b:Int),.int .i16 im]] w (C4 w pb co PC a (AW (bytesOf g (IntKind.u64.wrap (V+IntKind.u64.wrap im)) 8) 0 8)):=by
 obtain ⟨x,hx⟩:∃x,x=IntKind.u64.wrap (V+IntKind.u64.wrap im):=⟨_,rfl⟩
 have HXB:=AC (show 0<=x/\x<=18446744073709551615 from by rw [hx];exact Bl _)
 rw [<-hx] at hm ⊢
 have HX:=AC hx.symm
 have HM:=AC hm
 clear hx hm
 have HK:=AC K
 have HB:=AC (Ad.new w op a b im).drew
 have BX:=AC (Ad.new w op a b im).drew.c
 clear K
 obtain ⟨V2,hV2⟩:∃V2,V2=AW (bytesOf g x 8) 0 8:=⟨_,rfl⟩
 rw [<-hV2]
 have HV2:=AC hV2.symm
 clear hV2
 go_enter Tryz.func259,Tryz.ntmps259
 go_wp2
 go_region_held (fun W=>W.cell? (pK w.heap.size 0)=some (.int .u8 op)/\W.cell? (pK w.heap.size 1)=some (.int .i64 (a:Int))/\W.cell? (pK w.heap.size 2)=some (.int .i64 (b:Int))/\W.cell? (pK w.heap.size 3)=some (.int .i16 im)) (exact AB BX) (first|(go_at_call 328;refine ((AB HK).ad _ (AB HB)).mono ?_;rw [AB HX];rintro e wn ⟨rfl,hb⟩;clear HB BX;have BX:=AC hb.c;have HB:=AC hb;clear hb)|(go_at_call 327;refine ((AB HK).lo _ x 8 (AB HB) (by omega) (AB HXB)).mono ?_;rw [AB HV2];rintro e wn ⟨hb,ht, -⟩;obtain rfl:=ht (AB HM);clear HB BX ht;have BX:=AC hb.c;have HB:=AC hb;clear hb)|(go_at_call 321;refine ((AB HK).be _ _ (AB HB)).mono ?_;rintro e wn ⟨rfl,hb,hc⟩;clear BX;have BX:=AC hb;have HC:=AC hc;clear hb hc))
 go_wp2
 go_ret
 exact ⟨rfl,AB HC⟩
theorem ar {w:World} {pb co:Nat} {f g:Nat->Int} {PC U V op:Int} {a b:Nat} {im:Int} (K:IG w pb co f g PC U V op a b im) (hm:Ae f 4 (IntKind.u64.wrap (V+IntKind.u64.wrap im)) 1=true):Calls Tryz.prog 261 #[pq pb co,.agg #[.int .u8 op,.int .i64 (a:Int),.int .i64 (b:Int),.int .i16 im]] w (C4 w pb co PC a (AW (bytesOf g (IntKind.u64.wrap (V+IntKind.u64.wrap im)) 1) 0 1)):=by
 obtain ⟨x,hx⟩:∃x,x=IntKind.u64.wrap (V+IntKind.u64.wrap im):=⟨_,rfl⟩
 have HXB:=AC (show 0<=x/\x<=18446744073709551615 from by rw [hx];exact Bl _)
 rw [<-hx] at hm ⊢
 have HX:=AC hx.symm
 have HM:=AC hm
 clear hx hm
 have HK:=AC K
 have HB:=AC (Ad.new w op a b im).drew
 have BX:=AC (Ad.new w op a b im).drew.c
 clear K
 obtain ⟨V2,hV2⟩:∃V2,V2=AW (bytesOf g x 1) 0 1:=⟨_,rfl⟩
 rw [<-hV2]
 have HV2:=AC hV2.symm
 clear hV2
 go_enter Tryz.func261,Tryz.ntmps261
 go_wp2
 go_region_held (fun W=>W.cell? (pK w.heap.size 0)=some (.int .u8 op)/\W.cell? (pK w.heap.size 1)=some (.int .i64 (a:Int))/\W.cell? (pK w.heap.size 2)=some (.int .i64 (b:Int))/\W.cell? (pK w.heap.size 3)=some (.int .i16 im)) (exact AB BX) (first|(go_at_call 328;refine ((AB HK).ad _ (AB HB)).mono ?_;rw [AB HX];rintro e wn ⟨rfl,hb⟩;clear HB BX;have BX:=AC hb.c;have HB:=AC hb;clear hb)|(go_at_call 327;refine ((AB HK).lo _ x 1 (AB HB) (by omega) (AB HXB)).mono ?_;rw [AB HV2];rintro e wn ⟨hb,ht, -⟩;obtain rfl:=ht (AB HM);clear HB BX ht;have BX:=AC hb.c;have HB:=AC hb;clear hb)|(go_at_call 321;refine ((AB HK).be _ _ (AB HB)).mono ?_;rintro e wn ⟨rfl,hb,hc⟩;clear BX;have BX:=AC hb;have HC:=AC hc;clear hb hc))
 go_wp2
 go_ret
 exact ⟨rfl,AB HC⟩
theorem dU {w:World} {pb co:Nat} {f g:Nat->Int} {PC U V op:Int} {a b:Nat} {im:Int} (K:IG w pb co f g PC U V op a b im) (hm:Ae f 2 (IntKind.u64.wrap (V+IntKind.u64.wrap im)) 8=true):Calls Tryz.prog 260 #[pq pb co,.agg #[.int .u8 op,.int .i64 (a:Int),.int .i64 (b:Int),.int .i16 im]] w (VS w pb co PC (IntKind.u64.wrap (V+IntKind.u64.wrap im)) 8 U):=by
 obtain ⟨x,hx⟩:∃x,x=IntKind.u64.wrap (V+IntKind.u64.wrap im):=⟨_,rfl⟩
 have HXB:=AC (show 0<=x/\x<=18446744073709551615 from by rw [hx];exact Bl _)
 rw [<-hx] at hm ⊢
 have HX:=AC hx.symm
 have HM:=AC hm
 clear hx hm
 have HK:=AC K
 have HB:=AC (Ad.new w op a b im).drew
 have BX:=AC (Ad.new w op a b im).drew.c
 clear K
 go_enter Tryz.func260,Tryz.ntmps260
 go_wp2
 go_region_held (fun W=>W.cell? (pK w.heap.size 0)=some (.int .u8 op)/\W.cell? (pK w.heap.size 1)=some (.int .i64 (a:Int))/\W.cell? (pK w.heap.size 2)=some (.int .i64 (b:Int))/\W.cell? (pK w.heap.size 3)=some (.int .i16 im)) (exact AB BX) (first|(go_at_call 328;refine ((AB HK).ad _ (AB HB)).mono ?_;rw [AB HX];rintro e wn ⟨rfl,hb⟩;clear HB BX;have BX:=AC hb.c;have HB:=AC hb;clear hb)|(go_at_call 324;refine ((AB HK).ra _ (AB HB)).mono ?_;rintro e wn ⟨rfl,hb⟩;clear HB BX;have BX:=AC hb.c;have HB:=AC hb;clear hb)|(go_at_call 329;refine ((AB HK).so _ x 8 U (AB HB) (by omega) (AB HXB)).mono ?_;rintro e wn ⟨ht, -⟩;obtain ⟨rfl,hb,hpc,W2,hb2,hsb⟩:=ht (AB HM);clear BX ht;have BX:=AC hb;have HPC:=AC (Fj pb co PC wn hpc);have HR:=AC (show ∃W2,Below w.heap.size w W2/\Fa (CX W2 pb (co+17) x ((A8 U).take 8) 8) wn from ⟨W2,hb2,hsb⟩);clear hb hpc hb2 hsb))
 go_wp2_with (first|(go_at_call 325;refine (AB HPC).mono ?_;rintro e wm ⟨rfl,rfl⟩))
 go_ret
 exact ⟨rfl,AB HR⟩
theorem gx {w:World} {pb co:Nat} {f g:Nat->Int} {PC U V op:Int} {a b:Nat} {im:Int} (K:IG w pb co f g PC U V op a b im) (hm:Ae f 2 (IntKind.u64.wrap (V+IntKind.u64.wrap im)) 1=true):Calls Tryz.prog 262 #[pq pb co,.agg #[.int .u8 op,.int .i64 (a:Int),.int .i64 (b:Int),.int .i16 im]] w (VS w pb co PC (IntKind.u64.wrap (V+IntKind.u64.wrap im)) 1 U):=by
 obtain ⟨x,hx⟩:∃x,x=IntKind.u64.wrap (V+IntKind.u64.wrap im):=⟨_,rfl⟩
 have HXB:=AC (show 0<=x/\x<=18446744073709551615 from by rw [hx];exact Bl _)
 rw [<-hx] at hm ⊢
 have HX:=AC hx.symm
 have HM:=AC hm
 clear hx hm
 have HK:=AC K
 have HB:=AC (Ad.new w op a b im).drew
 have BX:=AC (Ad.new w op a b im).drew.c
 clear K
 go_enter Tryz.func262,Tryz.ntmps262
 go_wp2
 go_region_held (fun W=>W.cell? (pK w.heap.size 0)=some (.int .u8 op)/\W.cell? (pK w.heap.size 1)=some (.int .i64 (a:Int))/\W.cell? (pK w.heap.size 2)=some (.int .i64 (b:Int))/\W.cell? (pK w.heap.size 3)=some (.int .i16 im)) (exact AB BX) (first|(go_at_call 328;refine ((AB HK).ad _ (AB HB)).mono ?_;rw [AB HX];rintro e wn ⟨rfl,hb⟩;clear HB BX;have BX:=AC hb.c;have HB:=AC hb;clear hb)|(go_at_call 324;refine ((AB HK).ra _ (AB HB)).mono ?_;rintro e wn ⟨rfl,hb⟩;clear HB BX;have BX:=AC hb.c;have HB:=AC hb;clear hb)|(go_at_call 329;refine ((AB HK).so _ x 1 U (AB HB) (by omega) (AB HXB)).mono ?_;rintro e wn ⟨ht, -⟩;obtain ⟨rfl,hb,hpc,W2,hb2,hsb⟩:=ht (AB HM);clear BX ht;have BX:=AC hb;have HPC:=AC (Fj pb co PC wn hpc);have HR:=AC (show ∃W2,Below w.heap.size w W2/\Fa (CX W2 pb (co+17) x ((A8 U).take 1) 1) wn from ⟨W2,hb2,hsb⟩);clear hb hpc hb2 hsb))
 go_wp2_with (first|(go_at_call 325;refine (AB HPC).mono ?_;rintro e wm ⟨rfl,rfl⟩))
 go_ret
 exact ⟨rfl,AB HR⟩
theorem JO:∀args w,(callFunc 328 args).run Tryz.prog w= .ok (.enter 328 args) w:=enters_of Tryz.func328 (by kernel_rfl) rfl
theorem Pz:∀args w,(callFunc 324 args).run Tryz.prog w= .ok (.enter 324 args) w:=enters_of Tryz.func324 (by kernel_rfl) rfl
theorem Ko:∀args w,(callFunc 327 args).run Tryz.prog w= .ok (.enter 327 args) w:=enters_of Tryz.func327 (by kernel_rfl) rfl
theorem Je:∀args w,(callFunc 329 args).run Tryz.prog w= .ok (.enter 329 args) w:=enters_of Tryz.func329 (by kernel_rfl) rfl
theorem dV {w:World} {pb co:Nat} {f g:Nat->Int} {PC U V op:Int} {a b:Nat} {im:Int} (K:IG w pb co f g PC U V op a b im) (hm:Ae f 4 (IntKind.u64.wrap (V+IntKind.u64.wrap im)) 8=false):Calls Tryz.prog 259 #[pq pb co,.agg #[.int .u8 op,.int .i64 (a:Int),.int .i64 (b:Int),.int .i16 im]] w (fun e w'=>e= .panicked (DB 131)/\Below w.heap.size w w'):=by
 obtain ⟨x,hx⟩:∃x,x=IntKind.u64.wrap (V+IntKind.u64.wrap im):=⟨_,rfl⟩
 have HXB:=AC (show 0<=x/\x<=18446744073709551615 from by rw [hx];exact Bl _)
 rw [<-hx] at hm
 have HX:=AC hx.symm
 have HM:=AC hm
 clear hx hm
 have HK:=AC K
 have HB:=AC (Ad.new w op a b im).drew
 have BX:=AC (Ad.new w op a b im).drew.c
 clear K
 have HAD:=AC (AB HK).ad
 rw [AB HX] at HAD
 have RL:=AC (show ∀w',JT w w' op a b im->(Instr.loadAt 350 (pq w.heap.size 0)).run Tryz.prog w'= .ok (.agg #[.int .u8 op,.int .i64 (a:Int),.int .i64 (b:Int),.int .i16 im]) w' from fun w' c=>by
  obtain ⟨c0,c1,c2,c3⟩:=c
  go_simp)
 go_enter Tryz.func259,Tryz.ntmps259
 go_upto_region 1 with fail
 refine BA ?_
 intro Ac hA
 have e0:Ac.eval (.tmp 0)= pq pb co:=by rw [hA];rfl
 have e3:Ac.eval (.tmp 3)= pq w.heap.size 0:=by rw [hA];rfl
 have esz:Ac.tmps.size=13:=by rw [hA];rfl
 have edf:Ac.defers=[]:=by rw [hA]
 clear hA
 refine wp_region_held_drew (S:=fun W=>JT w W op a b im) (by kernel_rfl) (AB BX) (fun hS=> ?_)
 clear BX
 refine tk 0 (some 5) rfl rfl (by kernel_rfl) (fun _ _ _=>id) (AK rfl _ rfl (pq pb co) (by simp [AF,AE,esz,e0,e3,AI])) hS ?_
 refine tk 1 (some 6) rfl rfl (by kernel_rfl) (fun _ _ _=>id) (AQ rfl _ _ rfl (pK w.heap.size 0) (by simp [AF,AE,esz,e0,e3,AI]) (.agg #[.int .u8 op,.int .i64 (a:Int),.int .i64 (b:Int),.int .i16 im]) (AB RL)) hS ?_
 refine tk 2 (some 7) rfl rfl (by kernel_rfl) (fun _ _ _=>id) (AK rfl _ rfl (pq pb co) (by simp [AF,AE,esz,e0,e3,AI])) hS ?_
 refine tk 3 (some 8) rfl rfl (by kernel_rfl) (fun _ _ _=>id) (AK rfl _ rfl (pq pb co) (by simp [AF,AE,esz,e0,e3,AI])) hS ?_
 refine tk 4 (some 9) rfl rfl (by kernel_rfl) (fun _ _ _=>id) (AQ rfl _ _ rfl (pK w.heap.size 0) (by simp [AF,AE,esz,e0,e3,AI]) (.agg #[.int .u8 op,.int .i64 (a:Int),.int .i64 (b:Int),.int .i16 im]) (AB RL)) hS ?_
 refine rdy [5] (by kernel_rfl) (AllReadyH.cons rfl (fun K hK=> ?_) AllReadyH.nil)
 refine Bt rfl 328 _ _ rfl #[pq pb co,.agg #[.int .u8 op,.int .i64 (a:Int),.int .i64 (b:Int),.int .i16 im]] (by simp [AF,AE,esz,e0,e3,AI]) JO _ (fun e w' h=>⟨_,h.1⟩) (AB HAD _ (AB HB)) (some 10) rfl ?_
 rintro r wn ⟨hr,hb⟩
 obtain rfl:r= .int .u64 x:=by injection hr
 refine hK.out _ _ hb.c (fun hS=> ?_)
 clear hK K hr HB
 have HB:=AC hb
 clear hb
 refine rdy [6] (by kernel_rfl) (AllReadyH.cons rfl (fun K hK=> ?_) AllReadyH.nil)
 exact Gi rfl 327 _ _ rfl #[pq pb co,.int .u64 x,.int .i64 8] (by simp [AF,AE,esz,e0,e3,AI]) Ko (DB 131) _ (fun e w' h=>h.2.2 (AB HM)) ((AB HK).lo _ x 8 (AB HB) (by omega) (AB HXB)) (fun w' h=>⟨by simp only [GP];exact edf,rfl,h.1.below⟩)
theorem au {w:World} {pb co:Nat} {f g:Nat->Int} {PC U V op:Int} {a b:Nat} {im:Int} (K:IG w pb co f g PC U V op a b im) (hm:Ae f 4 (IntKind.u64.wrap (V+IntKind.u64.wrap im)) 1=false):Calls Tryz.prog 261 #[pq pb co,.agg #[.int .u8 op,.int .i64 (a:Int),.int .i64 (b:Int),.int .i16 im]] w (fun e w'=>e= .panicked (DB 131)/\Below w.heap.size w w'):=by
 obtain ⟨x,hx⟩:∃x,x=IntKind.u64.wrap (V+IntKind.u64.wrap im):=⟨_,rfl⟩
 have HXB:=AC (show 0<=x/\x<=18446744073709551615 from by rw [hx];exact Bl _)
 rw [<-hx] at hm
 have HX:=AC hx.symm
 have HM:=AC hm
 clear hx hm
 have HK:=AC K
 have HB:=AC (Ad.new w op a b im).drew
 have BX:=AC (Ad.new w op a b im).drew.c
 clear K
 have HAD:=AC (AB HK).ad
 rw [AB HX] at HAD
 have RL:=AC (show ∀w',JT w w' op a b im->(Instr.loadAt 350 (pq w.heap.size 0)).run Tryz.prog w'= .ok (.agg #[.int .u8 op,.int .i64 (a:Int),.int .i64 (b:Int),.int .i16 im]) w' from fun w' c=>by
  obtain ⟨c0,c1,c2,c3⟩:=c
  go_simp)
 go_enter Tryz.func261,Tryz.ntmps261
 go_upto_region 1 with fail
 refine BA ?_
 intro Ac hA
 have e0:Ac.eval (.tmp 0)= pq pb co:=by rw [hA];rfl
 have e3:Ac.eval (.tmp 3)= pq w.heap.size 0:=by rw [hA];rfl
 have esz:Ac.tmps.size=13:=by rw [hA];rfl
 have edf:Ac.defers=[]:=by rw [hA]
 clear hA
 refine wp_region_held_drew (S:=fun W=>JT w W op a b im) (by kernel_rfl) (AB BX) (fun hS=> ?_)
 clear BX
 refine tk 0 (some 5) rfl rfl (by kernel_rfl) (fun _ _ _=>id) (AK rfl _ rfl (pq pb co) (by simp [AF,AE,esz,e0,e3,AI])) hS ?_
 refine tk 1 (some 6) rfl rfl (by kernel_rfl) (fun _ _ _=>id) (AQ rfl _ _ rfl (pK w.heap.size 0) (by simp [AF,AE,esz,e0,e3,AI]) (.agg #[.int .u8 op,.int .i64 (a:Int),.int .i64 (b:Int),.int .i16 im]) (AB RL)) hS ?_
 refine tk 2 (some 7) rfl rfl (by kernel_rfl) (fun _ _ _=>id) (AK rfl _ rfl (pq pb co) (by simp [AF,AE,esz,e0,e3,AI])) hS ?_
 refine tk 3 (some 8) rfl rfl (by kernel_rfl) (fun _ _ _=>id) (AK rfl _ rfl (pq pb co) (by simp [AF,AE,esz,e0,e3,AI])) hS ?_
 refine tk 4 (some 9) rfl rfl (by kernel_rfl) (fun _ _ _=>id) (AQ rfl _ _ rfl (pK w.heap.size 0) (by simp [AF,AE,esz,e0,e3,AI]) (.agg #[.int .u8 op,.int .i64 (a:Int),.int .i64 (b:Int),.int .i16 im]) (AB RL)) hS ?_
 refine rdy [5] (by kernel_rfl) (AllReadyH.cons rfl (fun K hK=> ?_) AllReadyH.nil)
 refine Bt rfl 328 _ _ rfl #[pq pb co,.agg #[.int .u8 op,.int .i64 (a:Int),.int .i64 (b:Int),.int .i16 im]] (by simp [AF,AE,esz,e0,e3,AI]) JO _ (fun e w' h=>⟨_,h.1⟩) (AB HAD _ (AB HB)) (some 10) rfl ?_
 rintro r wn ⟨hr,hb⟩
 obtain rfl:r= .int .u64 x:=by injection hr
 refine hK.out _ _ hb.c (fun hS=> ?_)
 clear hK K hr HB
 have HB:=AC hb
 clear hb
 refine rdy [6] (by kernel_rfl) (AllReadyH.cons rfl (fun K hK=> ?_) AllReadyH.nil)
 exact Gi rfl 327 _ _ rfl #[pq pb co,.int .u64 x,.int .i64 1] (by simp [AF,AE,esz,e0,e3,AI]) Ko (DB 131) _ (fun e w' h=>h.2.2 (AB HM)) ((AB HK).lo _ x 1 (AB HB) (by omega) (AB HXB)) (fun w' h=>⟨by simp only [GP];exact edf,rfl,h.1.below⟩)
theorem dW {w:World} {pb co:Nat} {f g:Nat->Int} {PC U V op:Int} {a b:Nat} {im:Int} (K:IG w pb co f g PC U V op a b im) (hm:Ae f 2 (IntKind.u64.wrap (V+IntKind.u64.wrap im)) 8=false):Calls Tryz.prog 260 #[pq pb co,.agg #[.int .u8 op,.int .i64 (a:Int),.int .i64 (b:Int),.int .i16 im]] w (fun e w'=>e= .panicked (DB 131)/\Below w.heap.size w w'):=by
 obtain ⟨x,hx⟩:∃x,x=IntKind.u64.wrap (V+IntKind.u64.wrap im):=⟨_,rfl⟩
 have HXB:=AC (show 0<=x/\x<=18446744073709551615 from by rw [hx];exact Bl _)
 rw [<-hx] at hm
 have HX:=AC hx.symm
 have HM:=AC hm
 clear hx hm
 have HK:=AC K
 have HB:=AC (Ad.new w op a b im).drew
 have BX:=AC (Ad.new w op a b im).drew.c
 clear K
 have HAD:=AC (AB HK).ad
 rw [AB HX] at HAD
 have RL:=AC (show ∀w',JT w w' op a b im->(Instr.loadAt 350 (pq w.heap.size 0)).run Tryz.prog w'= .ok (.agg #[.int .u8 op,.int .i64 (a:Int),.int .i64 (b:Int),.int .i16 im]) w' from fun w' c=>by
  obtain ⟨c0,c1,c2,c3⟩:=c
  go_simp)
 go_enter Tryz.func260,Tryz.ntmps260
 go_upto_region 1 with fail
 refine BA ?_
 intro Ac hA
 have e0:Ac.eval (.tmp 0)= pq pb co:=by rw [hA];rfl
 have e3:Ac.eval (.tmp 3)= pq w.heap.size 0:=by rw [hA];rfl
 have esz:Ac.tmps.size=15:=by rw [hA];rfl
 have edf:Ac.defers=[]:=by rw [hA]
 clear hA
 refine wp_region_held_drew (S:=fun W=>JT w W op a b im) (by kernel_rfl) (AB BX) (fun hS=> ?_)
 clear BX
 refine tk 0 (some 5) rfl rfl (by kernel_rfl) (fun _ _ _=>id) (AK rfl _ rfl (pq pb co) (by simp [AF,AE,esz,e0,e3,AI])) hS ?_
 refine tk 1 (some 6) rfl rfl (by kernel_rfl) (fun _ _ _=>id) (AK rfl _ rfl (pq pb co) (by simp [AF,AE,esz,e0,e3,AI])) hS ?_
 refine tk 2 (some 7) rfl rfl (by kernel_rfl) (fun _ _ _=>id) (AQ rfl _ _ rfl (pK w.heap.size 0) (by simp [AF,AE,esz,e0,e3,AI]) (.agg #[.int .u8 op,.int .i64 (a:Int),.int .i64 (b:Int),.int .i16 im]) (AB RL)) hS ?_
 refine tk 4 (some 9) rfl rfl (by kernel_rfl) (fun _ _ _=>id) (AK rfl _ rfl (pq pb co) (by simp [AF,AE,esz,e0,e3,AI])) hS ?_
 refine tk 5 (some 10) rfl rfl (by kernel_rfl) (fun _ _ _=>id) (AQ rfl _ _ rfl (pK w.heap.size 0) (by simp [AF,AE,esz,e0,e3,AI]) (.agg #[.int .u8 op,.int .i64 (a:Int),.int .i64 (b:Int),.int .i16 im]) (AB RL)) hS ?_
 refine rdy [3] (by kernel_rfl) (AllReadyH.cons rfl (fun K hK=> ?_) AllReadyH.nil)
 refine Bt rfl 328 _ _ rfl #[pq pb co,.agg #[.int .u8 op,.int .i64 (a:Int),.int .i64 (b:Int),.int .i16 im]] (by simp [AF,AE,esz,e0,e3,AI]) JO _ (fun e w' h=>⟨_,h.1⟩) (AB HAD _ (AB HB)) (some 8) rfl ?_
 rintro r wn ⟨hr,hb⟩
 obtain rfl:r= .int .u64 x:=by injection hr
 refine hK.out _ _ hb.c (fun hS=> ?_)
 clear hK K hr HB
 have HB:=AC hb
 clear hb
 refine rdy [6] (by kernel_rfl) (AllReadyH.cons rfl (fun K hK=> ?_) AllReadyH.nil)
 refine Bt rfl 324 _ _ rfl #[pq pb co,.agg #[.int .u8 op,.int .i64 (a:Int),.int .i64 (b:Int),.int .i16 im]] (by simp [AF,AE,esz,e0,e3,AI]) Pz _ (fun e w' h=>⟨_,h.1⟩) ((AB HK).ra _ (AB HB)) (some 11) rfl ?_
 rintro r wn ⟨hr,hb⟩
 obtain rfl:r= .int .u64 U:=by injection hr
 refine hK.out _ _ hb.c (fun hS=> ?_)
 clear hK K hr HB
 have HB:=AC hb
 clear hb
 refine rdy [7] (by kernel_rfl) (AllReadyH.cons rfl (fun K hK=> ?_) AllReadyH.nil)
 exact Gi rfl 329 _ _ rfl #[pq pb co,.int .u64 x,.int .i64 8,.int .u64 U] (by simp [AF,AE,esz,e0,e3,AI]) Je (DB 131) _ (fun e w' h=>(h.2 (AB HM)).1) ((AB HK).so _ x 8 U (AB HB) (by omega) (AB HXB)) (fun w' h=>⟨by simp only [GP];exact edf,rfl,(h.2 (AB HM)).2⟩)
theorem av {w:World} {pb co:Nat} {f g:Nat->Int} {PC U V op:Int} {a b:Nat} {im:Int} (K:IG w pb co f g PC U V op a b im) (hm:Ae f 2 (IntKind.u64.wrap (V+IntKind.u64.wrap im)) 1=false):Calls Tryz.prog 262 #[pq pb co,.agg #[.int .u8 op,.int .i64 (a:Int),.int .i64 (b:Int),.int .i16 im]] w (fun e w'=>e= .panicked (DB 131)/\Below w.heap.size w w'):=by
 obtain ⟨x,hx⟩:∃x,x=IntKind.u64.wrap (V+IntKind.u64.wrap im):=⟨_,rfl⟩
 have HXB:=AC (show 0<=x/\x<=18446744073709551615 from by rw [hx];exact Bl _)
 rw [<-hx] at hm
 have HX:=AC hx.symm
 have HM:=AC hm
 clear hx hm
 have HK:=AC K
 have HB:=AC (Ad.new w op a b im).drew
 have BX:=AC (Ad.new w op a b im).drew.c
 clear K
 have HAD:=AC (AB HK).ad
 rw [AB HX] at HAD
 have RL:=AC (show ∀w',JT w w' op a b im->(Instr.loadAt 350 (pq w.heap.size 0)).run Tryz.prog w'= .ok (.agg #[.int .u8 op,.int .i64 (a:Int),.int .i64 (b:Int),.int .i16 im]) w' from fun w' c=>by
  obtain ⟨c0,c1,c2,c3⟩:=c
  go_simp)
 go_enter Tryz.func262,Tryz.ntmps262
 go_upto_region 1 with fail
 refine BA ?_
 intro Ac hA
 have e0:Ac.eval (.tmp 0)= pq pb co:=by rw [hA];rfl
 have e3:Ac.eval (.tmp 3)= pq w.heap.size 0:=by rw [hA];rfl
 have esz:Ac.tmps.size=15:=by rw [hA];rfl
 have edf:Ac.defers=[]:=by rw [hA]
 clear hA
 refine wp_region_held_drew (S:=fun W=>JT w W op a b im) (by kernel_rfl) (AB BX) (fun hS=> ?_)
 clear BX
 refine tk 0 (some 5) rfl rfl (by kernel_rfl) (fun _ _ _=>id) (AK rfl _ rfl (pq pb co) (by simp [AF,AE,esz,e0,e3,AI])) hS ?_
 refine tk 1 (some 6) rfl rfl (by kernel_rfl) (fun _ _ _=>id) (AK rfl _ rfl (pq pb co) (by simp [AF,AE,esz,e0,e3,AI])) hS ?_
 refine tk 2 (some 7) rfl rfl (by kernel_rfl) (fun _ _ _=>id) (AQ rfl _ _ rfl (pK w.heap.size 0) (by simp [AF,AE,esz,e0,e3,AI]) (.agg #[.int .u8 op,.int .i64 (a:Int),.int .i64 (b:Int),.int .i16 im]) (AB RL)) hS ?_
 refine tk 4 (some 9) rfl rfl (by kernel_rfl) (fun _ _ _=>id) (AK rfl _ rfl (pq pb co) (by simp [AF,AE,esz,e0,e3,AI])) hS ?_
 refine tk 5 (some 10) rfl rfl (by kernel_rfl) (fun _ _ _=>id) (AQ rfl _ _ rfl (pK w.heap.size 0) (by simp [AF,AE,esz,e0,e3,AI]) (.agg #[.int .u8 op,.int .i64 (a:Int),.int .i64 (b:Int),.int .i16 im]) (AB RL)) hS ?_
 refine rdy [3] (by kernel_rfl) (AllReadyH.cons rfl (fun K hK=> ?_) AllReadyH.nil)
 refine Bt rfl 328 _ _ rfl #[pq pb co,.agg #[.int .u8 op,.int .i64 (a:Int),.int .i64 (b:Int),.int .i16 im]] (by simp [AF,AE,esz,e0,e3,AI]) JO _ (fun e w' h=>⟨_,h.1⟩) (AB HAD _ (AB HB)) (some 8) rfl ?_
 rintro r wn ⟨hr,hb⟩
 obtain rfl:r= .int .u64 x:=by injection hr
 refine hK.out _ _ hb.c (fun hS=> ?_)
 clear hK K hr HB
 have HB:=AC hb
 clear hb
 refine rdy [6] (by kernel_rfl) (AllReadyH.cons rfl (fun K hK=> ?_) AllReadyH.nil)
 refine Bt rfl 324 _ _ rfl #[pq pb co,.agg #[.int .u8 op,.int .i64 (a:Int),.int .i64 (b:Int),.int .i16 im]] (by simp [AF,AE,esz,e0,e3,AI]) Pz _ (fun e w' h=>⟨_,h.1⟩) ((AB HK).ra _ (AB HB)) (some 11) rfl ?_
 rintro r wn ⟨hr,hb⟩
 obtain rfl:r= .int .u64 U:=by injection hr
 refine hK.out _ _ hb.c (fun hS=> ?_)
 clear hK K hr HB
 have HB:=AC hb
 clear hb
 refine rdy [7] (by kernel_rfl) (AllReadyH.cons rfl (fun K hK=> ?_) AllReadyH.nil)
 exact Gi rfl 329 _ _ rfl #[pq pb co,.int .u64 x,.int .i64 1,.int .u64 U] (by simp [AF,AE,esz,e0,e3,AI]) Je (DB 131) _ (fun e w' h=>(h.2 (AB HM)).1) ((AB HK).so _ x 1 U (AB HB) (by omega) (AB HXB)) (fun w' h=>⟨by simp only [GP];exact edf,rfl,(h.2 (AB HM)).2⟩)
end Go.Proofs.YtdchgbmliojoiaaGreatDoor
