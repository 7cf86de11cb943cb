/- Joined texts. -/
import Derived.Test.YtgpfmgaidbjcpaaGreatDoorJhZF
set_option linter.unusedVariables false
set_option linter.unusedSimpArgs false
set_option maxRecDepth 10000
set_option maxHeartbeats 16000000
namespace Go.Proofs.YtgpfmgaidbjcpaaGreatDoor
open ChangeShapes WideShapes ChangeAt RowKit
section
set_option maxRecDepth 100000
theorem aiJ:cq (ak xX)=true:=by decide +kernel
theorem aiK:og xX U9 [5,6,7,8] [0,1,2,3]=true:=by decide +kernel
theorem aiL:od (ak aE) lI tg:=qq 3 [4] [(80,ak [(0,[1,2]),(14,[])]),(160,ak [(0,[1,1,97]),(13,[2,1,98]),(13,[])]),(256,ak [(0,[3,3,110,101,119]),(27,[])]),(32,ak [(0,[2,9,48]),(1,[5,8]),(10,[])])] xX [(80,ak [(0,[1,2]),(14,[])])] xX U9 [5,6,7,8] [0,1,2,3] [(160,ak [(0,[1,1,97]),(13,[2,1,98]),(13,[])]),(32,ak [(0,[2,9,32]),(1,[5]),(11,[])])] U3 Lo (by decide +kernel) (by decide +kernel) (by decide +kernel) aiJ aiK (by decide +kernel)
theorem aiM:cq (ak Ly)=true:=by decide +kernel
theorem aiN:og Ly GC [5,6,7,8,9] [0,1,2,3]=true:=by decide +kernel
theorem aiO:od (ak aE) lI th:=qq 3 [4] [(80,ak [(0,[1,2]),(14,[])]),(160,ak [(0,[1,1,97]),(13,[2,1,98]),(13,[])]),(256,ak [(0,[3,3,110,101,119]),(27,[])]),(32,ak [(0,[2,9,48]),(1,[5,8]),(10,[])])] xX [(288,ak [(0,[97,108,108,32,116]),(27,[])]),(80,ak [(0,[1,2,5]),(1,[9]),(11,[])])] Ly GC [5,6,7,8,9] [0,1,2,3] [(160,ak [(0,[1,1,97]),(13,[2,1,98]),(13,[])]),(32,ak [(0,[2,9,32]),(1,[5]),(11,[])])] U4 Lr (by decide +kernel) (by decide +kernel) (by decide +kernel) aiM aiN (by decide +kernel)
theorem aiP:cq (ak LA)=true:=by decide +kernel
theorem aiQ:og LA GC [5,6,7,8,9] [0,1,2,3]=true:=by decide +kernel
theorem aiR:od (ak aE) lI uo:=qq 3 [4] [(80,ak [(0,[1,2]),(14,[])]),(160,ak [(0,[1,1,97]),(13,[2,1,98]),(13,[])]),(256,ak [(0,[3,3,110,101,119]),(27,[])]),(32,ak [(0,[2,9,48]),(1,[5,8]),(10,[])])] xX [(288,ak [(0,[97,108,108,32,116,104,101,32,98,121,116,101,115,32,116,104,97,116,32,97,32,102,105,108,101,32,109,97,121,32,104,97])]),(80,ak [(0,[1,2,32]),(1,[9]),(11,[])])] LA GC [5,6,7,8,9] [0,1,2,3] [(160,ak [(0,[1,1,97]),(13,[2,1,98]),(13,[])]),(32,ak [(0,[2,9,32]),(1,[5]),(11,[])])] U5 Lu (by decide +kernel) (by decide +kernel) (by decide +kernel) aiP aiQ (by decide +kernel)
theorem aiS:cq (ak LC)=true:=by decide +kernel
theorem aiT:og LC Va [5,6,7,8,9,10,11] [0,1,2,3]=true:=by decide +kernel
theorem aiU:od (ak aE) lI uq:=qq 3 [4] [(80,ak [(0,[1,2]),(14,[])]),(160,ak [(0,[1,1,97]),(13,[2,1,98]),(13,[])]),(256,ak [(0,[3,3,110,101,119]),(27,[])]),(32,ak [(0,[2,9,48]),(1,[5,8]),(10,[])])] xX [(288,ak [(0,[97,108,108,32,116,104,101,32,98,121,116,101,115,32,116,104,97,116,32,97,32,102,105,108,101,32,109,97,121,32,104,97])]),(320,ak [(0,[118,101,44,32,97,110,100,32,115,111,109,101,32,109,111,114,101,32,111,102,32,116,104,101,109,44,32,115,111,32,116,104])]),(352,ak [(0,[97,116,32,105,116,32]),(26,[])]),(80,ak [(0,[1,2,70]),(1,[9,10,11]),(9,[])])] LC Va [5,6,7,8,9,10,11] [0,1,2,3] [(160,ak [(0,[1,1,97]),(13,[2,1,98]),(13,[])]),(32,ak [(0,[2,9,32]),(1,[5]),(11,[])])] U6 Lw (by decide +kernel) (by decide +kernel) (by decide +kernel) aiS aiT (by decide +kernel)
end
end Go.Proofs.YtgpfmgaidbjcpaaGreatDoor
