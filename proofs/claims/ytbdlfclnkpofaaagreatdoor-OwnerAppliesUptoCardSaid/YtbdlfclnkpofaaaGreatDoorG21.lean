import Derived.Test.YtbdlfclnkpofaaaGreatDoorG9
set_option maxRecDepth 100000
set_option maxHeartbeats 40000000
set_option linter.unusedSimpArgs false
set_option linter.unusedVariables false
namespace Go.Proofs.YtbdlfclnkpofaaaGreatDoor
open Go.RowKit
open _root_.Go.Proofs.Tryz
theorem UU(w:LC)(ok:Nat->Prop)(t:V)(v:Value)(h:In w ok t v)(hN:FV t<=1000000000000):Calls prog 5 #[v] w fun e w'=>∃ r,e=.returned r/\La w w'/\In w' (fun k=>w.heap.size<=k) t r:=by
 obtain⟨d,h⟩:=h;refine(Ur d w ok t v h hN).mono ?_;rintro e w' ⟨r,rfl,hb,hr⟩;exact⟨r,rfl,hb,hr.is⟩
end Go.Proofs.YtbdlfclnkpofaaaGreatDoor
