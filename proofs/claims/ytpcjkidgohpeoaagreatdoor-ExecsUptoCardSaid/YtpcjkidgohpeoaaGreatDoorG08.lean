import Derived.Test.YtpcjkidgohpeoaaGreatDoorG01
import Derived.Test.YtpcjkidgohpeoaaGreatDoorRows
import Derived.JoinedOf
import Derived.SevenTiedAt
set_option linter.all false
namespace Go.Proofs.YtpcjkidgohpeoaaGreatDoor
open Proofs.Tryz
abbrev cfR:=Rows.execsUptoRow
abbrev cfU:=Rows.OpenSpec.upto Rows.execsSpec
abbrev cfS:ChangeSpec:=cfU.bare
def cf1:cfR.wf (OpenSpec.ofChange cfS)=true:=kf
def cf2:laidOutB prog=true:=kf
def cf3:mapsRowed prog=true:=kf
def cf4:Tryz.f3.params.all (prog.readableRec ·)=true:=kf
def cf5:namedTie prog cfR.named cfS.vars=true:=kf
def cf6:(cfR.stops==[])=true:=kf
def cf7:(prog.stops==[])=true:=kf
def cf8:(cfR.knobs==[])=true:=kf
def cf9:(prog.stopKnobs==[])=true:=kf
def pj:(cfR.inPlace==prog.inPlace 3)=true:=kf
def pl:(cfR.unfollowed==prog.unfollowed 3)=true:=kf
def po:(cfR.recurses==prog.recurses 3)=true:=kf
def pq:(cfR.named==prog.varsNamed 3)=true:=kf
end Go.Proofs.YtpcjkidgohpeoaaGreatDoor
