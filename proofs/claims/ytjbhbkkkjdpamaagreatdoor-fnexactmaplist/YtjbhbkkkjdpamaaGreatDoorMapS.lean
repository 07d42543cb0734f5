/- The contract of the specification's MapAt. -/
import Derived.Test.YtjbhbkkkjdpamaaGreatDoorMapA
namespace Go.Proofs.YtjbhbkkkjdpamaaGreatDoor.MapS
open Go.ChangeShapes Go.WideShapes Go.ChangeAt Go.RowKit Go.Joins Go.Deep
open Go.Proofs.YtjbhbkkkjdpamaaGreatDoor.Base Go.Proofs.YtjbhbkkkjdpamaaGreatDoor.InsA Go.Proofs.YtjbhbkkkjdpamaaGreatDoor.Funs Go.Proofs.YtjbhbkkkjdpamaaGreatDoor.Open Go.Proofs.YtjbhbkkkjdpamaaGreatDoor.Keep Go.Proofs.YtjbhbkkkjdpamaaGreatDoor.UnitS Go.Proofs.YtjbhbkkkjdpamaaGreatDoor.Refs Go.Proofs.YtjbhbkkkjdpamaaGreatDoor.LayN Go.Proofs.YtjbhbkkkjdpamaaGreatDoor.LayA Go.Proofs.YtjbhbkkkjdpamaaGreatDoor.KeepD Go.Proofs.YtjbhbkkkjdpamaaGreatDoor.KeepA Go.Proofs.YtjbhbkkkjdpamaaGreatDoor.LayD Go.Proofs.YtjbhbkkkjdpamaaGreatDoor.LayS Go.Proofs.YtjbhbkkkjdpamaaGreatDoor.LayT Go.Proofs.YtjbhbkkkjdpamaaGreatDoor.LayU Go.Proofs.YtjbhbkkkjdpamaaGreatDoor.LayV Go.Proofs.YtjbhbkkkjdpamaaGreatDoor.MapD Go.Proofs.YtjbhbkkkjdpamaaGreatDoor.MapA
set_option linter.unusedVariables false
set_option maxRecDepth 100000

end Go.Proofs.YtjbhbkkkjdpamaaGreatDoor.MapS
