import Derived.Test.YtpcjkidgohpeoaaGreatDoorG01
import Derived.Test.YtpcjkidgohpeoaaGreatDoorRows
import Derived.LaidByTextLater
import Derived.SevenTiedAt
set_option linter.all false
namespace Go.Proofs.YtpcjkidgohpeoaaGreatDoor
open Proofs.Tryz
abbrev JW:List (String×DataW Unit):=[("unicode/utf8.acceptRanges",Rows.laid_unicode_utf8_acceptRanges),("errors.errorType",Rows.laid_errors_errorType),("tinyos/exe.headerFields",Rows.laid_tinyos_exe_headerFields),("tinyos/kernel.parts",Rows.laid_tinyos_kernel_parts)]
def ms:Tryz.pinned.checked.prog.pinnedFits "unicode/utf8.first" =true:=kf
def VM:Tryz.pinned.checked.prog.headLifts.contains "ownunsafe" =false:=kf
def ky:Tryz.pinned.checked.prog.listedFits Rows.execsUptoRow.laid=true:=by
 unfold Program.listedFits;rw [VM];kernel_rfl
def oV:Tryz.prog.worded (varsWordLater true)=true:=kf
def oW:Tryz.prog.worded (varsWordLater !true)=false:=kf
def oX:Tryz.prog.worded rootWordLater=true:=kf
def oY:JW.map (λx=>Tryz.prog.kindOfLater x.1)=[LaidKind.data,.handle,.data,.data].map some:=kf
def oZ:(Tryz.prog.funcNamed "gosem.cut.vars").isSome=true:=kf
def oh:varsNamedLaterB Tryz.prog (varsId Tryz.prog) JW=true:=kf
def oj:∀os B,varsDone Tryz.prog 400 (varsId Tryz.prog) os B=true:=λ_ _=>kf
def oq:∀os B,(DataW.laidRun Tryz.prog (varsWorld Tryz.prog 400 (varsId Tryz.prog) os B).memory 8 ((JW.filter λx=>x.2.handleName?.isNone).map (·.1))).map (·.1)=some (JW.filter λx=>x.2.handleName?.isNone):=λ_ _=>kf
def ot:∀os B,(DataW.laidRun Tryz.prog (varsWorld Tryz.prog 400 (varsId Tryz.prog) os B).memory 8 ((JW.filter λx=>x.2.handleName?.isNone).map (·.1))).map (λx=>decide x.2.Nodup&&laidRowsB Tryz.prog (varsWorld Tryz.prog 400 (varsId Tryz.prog) os B).memory x.2)=some true:=λ_ _=>kf
def mt:∀os B,(JW.filter λx=>x.2.handleName?.isSome).all (handleAtB Tryz.prog (varsWorld Tryz.prog 400 (varsId Tryz.prog) os B).memory)=true:=λ_ _=>kf
def mu:Tryz.prog.laidByTextLater JW [.data,.handle,.data,.data] true:=
 Program.laidByTextLater_by_run_h 400 8 oV oW oX oY oZ oh oj oq ot mt
def YR:Rows.execsUptoRow.laidByTextAt .later Tryz.pinned [.data,.handle,.data,.data,.pinned] true:=
 OpenClaim.laidByTextAt_pinned rfl rfl mu rfl rfl rfl rfl (λy hy _e=>by
  simp only [Rows.execsUptoRow,List.zip_cons_cons,List.zip_nil_right,vp,List.mem_nil_iff,or_false] at hy;rcases hy with rfl|rfl|rfl|rfl|rfl
  ·cases _e
  ·cases _e
  ·cases _e
  ·cases _e
  ·exact ⟨ms,kf⟩) ky
end Go.Proofs.YtpcjkidgohpeoaaGreatDoor
