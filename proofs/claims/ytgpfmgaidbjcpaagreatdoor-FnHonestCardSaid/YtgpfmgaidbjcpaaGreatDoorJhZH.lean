/- Joined texts. -/
import Derived.Test.YtgpfmgaidbjcpaaGreatDoorJhZF
set_option linter.unusedVariables false
set_option linter.unusedSimpArgs false
set_option maxRecDepth 10000
set_option maxHeartbeats 16000000
namespace Go.Proofs.YtgpfmgaidbjcpaaGreatDoor
open ChangeShapes WideShapes ChangeAt RowKit
section
set_option maxRecDepth 100000
theorem aiV:cq (ak xY)=true:=by decide +kernel
theorem aiW:og xY Vb [5,6,7,8] [0,1,2,3]=true:=by decide +kernel
theorem aiX:od (ak aE) ni tg:=qq 3 [4] [(80,ak [(0,[1,2]),(14,[])]),(256,ak [(0,[3,3,110,101,119]),(27,[])]),(64,ak [(0,[2,2,16]),(1,[8]),(11,[])])] xY [(80,ak [(0,[1,2]),(14,[])])] xY Vb [5,6,7,8] [0,1,2,3] [(64,ak [(0,[2,2]),(14,[])])] U3 Lo (by decide +kernel) (by decide +kernel) (by decide +kernel) aiV aiW (by decide +kernel)
theorem aiY:cq (ak LD)=true:=by decide +kernel
theorem aiZ:og LD GD [5,6,7,8,9] [0,1,2,3]=true:=by decide +kernel
theorem ai0:od (ak aE) ni th:=qq 3 [4] [(80,ak [(0,[1,2]),(14,[])]),(256,ak [(0,[3,3,110,101,119]),(27,[])]),(64,ak [(0,[2,2,16]),(1,[8]),(11,[])])] xY [(288,ak [(0,[97,108,108,32,116]),(27,[])]),(80,ak [(0,[1,2,5]),(1,[9]),(11,[])])] LD GD [5,6,7,8,9] [0,1,2,3] [(64,ak [(0,[2,2]),(14,[])])] U4 Lr (by decide +kernel) (by decide +kernel) (by decide +kernel) aiY aiZ (by decide +kernel)
theorem ai1:cq (ak LG)=true:=by decide +kernel
theorem ai2:og LG GD [5,6,7,8,9] [0,1,2,3]=true:=by decide +kernel
theorem ai3:od (ak aE) ni uo:=qq 3 [4] [(80,ak [(0,[1,2]),(14,[])]),(256,ak [(0,[3,3,110,101,119]),(27,[])]),(64,ak [(0,[2,2,16]),(1,[8]),(11,[])])] xY [(288,ak [(0,[97,108,108,32,116,104,101,32,98,121,116,101,115,32,116,104,97,116,32,97,32,102,105,108,101,32,109,97,121,32,104,97])]),(80,ak [(0,[1,2,32]),(1,[9]),(11,[])])] LG GD [5,6,7,8,9] [0,1,2,3] [(64,ak [(0,[2,2]),(14,[])])] U5 Lu (by decide +kernel) (by decide +kernel) (by decide +kernel) ai1 ai2 (by decide +kernel)
theorem ai4:cq (ak LN)=true:=by decide +kernel
theorem ai5:og LN Vc [5,6,7,8,9,10,11] [0,1,2,3]=true:=by decide +kernel
theorem ai6:od (ak aE) ni uq:=qq 3 [4] [(80,ak [(0,[1,2]),(14,[])]),(256,ak [(0,[3,3,110,101,119]),(27,[])]),(64,ak [(0,[2,2,16]),(1,[8]),(11,[])])] xY [(288,ak [(0,[97,108,108,32,116,104,101,32,98,121,116,101,115,32,116,104,97,116,32,97,32,102,105,108,101,32,109,97,121,32,104,97])]),(320,ak [(0,[118,101,44,32,97,110,100,32,115,111,109,101,32,109,111,114,101,32,111,102,32,116,104,101,109,44,32,115,111,32,116,104])]),(352,ak [(0,[97,116,32,105,116,32]),(26,[])]),(80,ak [(0,[1,2,70]),(1,[9,10,11]),(9,[])])] LN Vc [5,6,7,8,9,10,11] [0,1,2,3] [(64,ak [(0,[2,2]),(14,[])])] U6 Lw (by decide +kernel) (by decide +kernel) (by decide +kernel) ai4 ai5 (by decide +kernel)
end
end Go.Proofs.YtgpfmgaidbjcpaaGreatDoor
