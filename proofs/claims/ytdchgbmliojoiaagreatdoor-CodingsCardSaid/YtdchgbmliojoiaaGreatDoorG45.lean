import Derived.Test.YtdchgbmliojoiaaGreatDoorRows
import Derived.LaidByTextLater
import Derived.SevenTiedAt
import Derived.JoinedOf
set_option maxRecDepth 100000
namespace Go.Proofs.YtdchgbmliojoiaaGreatDoor
open Go
abbrev IK:List (String×DataW Unit):=[("unicode/utf8.acceptRanges",Rows.laid_unicode_utf8_acceptRanges),("errors.errorType",Rows.laid_errors_errorType),("tinyos/exe.headerFields",Rows.laid_tinyos_exe_headerFields),("tinyos/kernel.parts",Rows.laid_tinyos_kernel_parts)]
theorem dq:Tryz.pinned.checked.prog.pinnedFits "unicode/utf8.first" =true:=by kernel_rfl
theorem Rn:Tryz.pinned.checked.prog.headLifts.contains "ownunsafe" =false:=by kernel_rfl
theorem cD:Tryz.pinned.checked.prog.listedFits Rows.codingsRow.laid=true:=by
 unfold Program.listedFits
 rw [Rn]
 kernel_rfl
theorem fV:Tryz.prog.worded (varsWordLater true)=true:=by kernel_rfl
theorem fW:Tryz.prog.worded (varsWordLater !true)=false:=by kernel_rfl
theorem fX:Tryz.prog.worded rootWordLater=true:=by kernel_rfl
theorem fY:IK.map (fun x=>Tryz.prog.kindOfLater x.1)=[LaidKind.data,.handle,.data,.data].map some:=by kernel_rfl
theorem fZ:(Tryz.prog.funcNamed "gosem.cut.vars").isSome=true:=by kernel_rfl
theorem fd:varsNamedLaterB Tryz.prog (varsId Tryz.prog) IK=true:=by kernel_rfl
theorem fe:∀os tape,varsDone Tryz.prog 400 (varsId Tryz.prog) os tape=true:=fun _ _=>by kernel_rfl
theorem fh:∀os tape,(DataW.laidRun Tryz.prog (varsWorld Tryz.prog 400 (varsId Tryz.prog) os tape).memory 8 ((IK.filter fun x=>x.2.handleName?.isNone).map (·.1))).map (·.1)=some (IK.filter fun x=>x.2.handleName?.isNone):=fun _ _=>by kernel_rfl
theorem fj:∀os tape,(DataW.laidRun Tryz.prog (varsWorld Tryz.prog 400 (varsId Tryz.prog) os tape).memory 8 ((IK.filter fun x=>x.2.handleName?.isNone).map (·.1))).map (fun x=>decide x.2.Nodup&&laidRowsB Tryz.prog (varsWorld Tryz.prog 400 (varsId Tryz.prog) os tape).memory x.2)=some true:=fun _ _=>by kernel_rfl
theorem dr:∀os tape,(IK.filter fun x=>x.2.handleName?.isSome).all (handleAtB Tryz.prog (varsWorld Tryz.prog 400 (varsId Tryz.prog) os tape).memory)=true:=fun _ _=>by kernel_rfl
theorem dt:Tryz.prog.laidByTextLater IK [.data,.handle,.data,.data] true:=
 Program.laidByTextLater_by_run_h 400 8 fV fW fX fY fZ fd fe fh fj dr
theorem UH:Rows.codingsRow.laidByTextAt .later Tryz.pinned [.data,.handle,.data,.data,.pinned] true:=
 OpenClaim.laidByTextAt_pinned rfl rfl dt rfl rfl rfl rfl (fun y hy _e=>by
  simp only [Rows.codingsRow,List.zip_cons_cons,List.zip_nil_right,List.mem_cons,List.mem_nil_iff,or_false] at hy
  rcases hy with rfl|rfl|rfl|rfl|rfl
  ·cases _e
  ·cases _e
  ·cases _e
  ·cases _e
  ·exact ⟨dq,by kernel_rfl⟩) cD
abbrev cfR:=Rows.codingsRow
abbrev cfS:=Rows.codingsSpec
theorem cf1:cfR.wf (OpenSpec.ofChange cfS)=true:=by kernel_rfl
theorem cf2:laidOutB Tryz.prog=true:=by kernel_rfl
theorem cf3:mapsRowed Tryz.prog=true:=by kernel_rfl
theorem cf4:Tryz.f3.params.all (Tryz.prog.readableRec ·)=true:=by kernel_rfl
theorem cf5:namedTie Tryz.prog cfR.named cfS.vars=true:=by kernel_rfl
theorem cf6:(cfR.stops==[])=true:=by kernel_rfl
theorem cf7:(Tryz.prog.stops==[])=true:=by kernel_rfl
theorem cf8:(cfR.knobs==[])=true:=by kernel_rfl
theorem cf9:(Tryz.prog.stopKnobs==[])=true:=by kernel_rfl
theorem gV:(cfR.inPlace==Tryz.prog.inPlace 3)=true:=by kernel_rfl
theorem gW:(cfR.unfollowed==Tryz.prog.unfollowed 3)=true:=by kernel_rfl
theorem gX:(cfR.recurses==Tryz.prog.recurses 3)=true:=by kernel_rfl
theorem gY:(cfR.named==Tryz.prog.varsNamed 3)=true:=by kernel_rfl
theorem gZ:(cfR.maps==(Tryz.f3.params.toList++cfS.plain.varTypes Tryz.prog).any (Tryz.prog.mapsRec ·))=true:=by kernel_rfl
theorem gd:(cfR.ifaces==(Tryz.f3.params.toList++cfS.plain.varTypes Tryz.prog).any (Tryz.prog.ifacesRec ·))=true:=by kernel_rfl
theorem ge:(cfR.mapsOut==Tryz.prog.mapsAmong Tryz.f3.resultTypes.toList)=true:=by kernel_rfl
theorem gf:(cfR.loops==(Tryz.f3.params.toList++cfS.plain.varTypes Tryz.prog).any (Tryz.prog.loopsFrom ·))=true:=by kernel_rfl
theorem gJ:(cfR.wideKeys==(Tryz.f3.params.toList++cfS.plain.varTypes Tryz.prog++Tryz.f3.resultTypes.toList).any (Tryz.prog.wideKeysFrom ·))=true:=by kernel_rfl
theorem gh:cfS.vars.all (Tryz.prog.varReadable ·)=true:=by kernel_rfl
theorem gi:Tryz.f3.resultTypes.all (fun t=>Tryz.prog.readableRec t&&decide (t<Tryz.prog.types.size))=true:=by kernel_rfl
theorem gj:(cfR.ifacesOut==Tryz.f3.resultTypes.toList.any (Tryz.prog.ifacesRec ·))=true:=by kernel_rfl
theorem gk:(cfR.loopsOut==Tryz.f3.resultTypes.toList.any (Tryz.prog.loopsFrom ·))=true:=by kernel_rfl
theorem gm:(cfR.plainKeys==Tryz.prog.plainKeys)=true:=by kernel_rfl
theorem go:cfR.shortTexts.isNone=true:=by kernel_rfl
theorem gK:Tryz.prog.stopsHeard=true:=by kernel_rfl
theorem gr:Tryz.prog.mayEnter=true:=by kernel_rfl
theorem gL:(cfR.lifted==Tryz.prog.liftsFinal)=true:=by kernel_rfl
theorem gM:(Tryz.prog.make==some cfR.make)=true:=by kernel_rfl
theorem gt:(cfR.kinds==(if cfR.domain.isEmpty then [] else Tryz.f3.params.toList.map fun t=>match Tryz.prog.underlying t with|some (.int k)=>some k|_=>none))=true:=by kernel_rfl
theorem gu:(cfR.pinned==cfR.pinnedBy)=true:=by kernel_rfl
theorem gv:(cfR.veiled==(Tryz.f3.params.toList++cfS.plain.varTypes Tryz.prog++Tryz.f3.resultTypes.toList).any (Tryz.prog.veiledRec ·))=true:=by kernel_rfl
theorem gw:cfR.veiledFits Tryz.prog Tryz.f3.params.toList (Tryz.f3.params.toList++cfS.plain.varTypes Tryz.prog++Tryz.f3.resultTypes.toList)=true:=by kernel_rfl
theorem UI:Tryz.prog.funcNamed "tinyos/tinyoslaw.Codings" =some 3:=by kernel_rfl
theorem du:Tryz.f3.isInstance Tryz.prog cfR.origin cfR.targs:=of_decide_eq_true (by kernel_rfl)
theorem dw:Tryz.f3.isWrapper Tryz.prog cfR.wrapper cfR.mainSum:=by
 unfold Func.isWrapper
 rw [if_neg (of_decide_eq_false (by kernel_rfl))]
 exact ⟨rfl,rfl⟩
theorem dx:cfR.wfByText (OpenSpec.ofChange cfS)=true:=by kernel_rfl
theorem dy:Tryz.prog.mainIs=some (true,("300225b735b7e41a38b7a7bb57e4bc55028b125c809bf574d9ae59fe43e049cc" :String).toList):=by kernel_rfl
theorem cE:true=Tryz.prog.looks []:=by kernel_rfl
theorem gN:Tryz.prog.wantsStandIn 26=false:=by kernel_rfl
theorem gO:Tryz.prog.wantsStandIn 3=false:=by kernel_rfl
theorem iA:Tryz.prog.funcs.any Func.goes=false:=by kernel_rfl
theorem B9 {a b:Bool} (ha:a=true) (hb:b=true):(a&&b)=true:=by rw [ha,hb];rfl
theorem gz {P:Program} (h:P.funcs.any Func.goes=false) (f:FuncId):P.goes f=false:=by
 unfold Program.goes
 rw [h,Bool.and_false,Bool.or_false,List.any_eq_false]
 intro g _
 cases hg:P.funcs[g]? with
 |none=>simp
 |some fn=>
  have:=Array.any_eq_false.1 h g (Array.getElem?_eq_some_iff.1 hg).1
  rw [(Array.getElem?_eq_some_iff.1 hg).2] at this
  simpa using this
theorem gy {P:Program} {c:OpenClaim} (h:P.funcs.any Func.goes=false) (hs:c.start= .entering):false=c.goesBy P:=by
 unfold OpenClaim.goesBy Program.goesAt Program.goesFrom
 rw [hs]
 cases P.funcNamed c.func with
 |none=>rfl
 |some f=>simp [gz h f]
theorem ZF:joinedFacts Tryz.prog 3 Tryz.f3 cfS cfR=true:=by
 unfold joinedFacts
 exact B9 (B9 (B9 (B9 (B9 (B9 (B9 (B9 (B9 (B9 (B9 (B9 (B9 (B9 (B9 (B9 (B9 (B9 (B9 (B9 (B9 (B9 (B9 (B9 (B9 (B9 (B9 (B9 (B9 (B9 (B9 cf1 cf2) cf3) cf4) cf5) cf6) cf7) cf8) cf9) gV) gW) gX) gY) gZ) gd) ge) gf) gJ) gh) gi) gj) gk) gm) go) gK) gr) gL) gM) gt) gu) gv) gw
theorem dz:false=cfR.goesBy Tryz.prog:=gy iA rfl
end Go.Proofs.YtdchgbmliojoiaaGreatDoor
