/- A part of the proof. -/
import Derived.Test.YtbionhgjgcpogaaDoorProg
import Derived.Test.YtbionhgjgcpogaaDoorXP3G10
import Derived.Test.YtbionhgjgcpogaaDoorXP3G11
import Derived.Test.YtbionhgjgcpogaaDoorXP3G12
import Derived.Test.YtbionhgjgcpogaaDoorXP3G14
namespace Go.Proofs.YtbionhgjgcpogaaDoor
open Go Go.Proofs.YtbionhgjgcpogaaDoor.Clean
set_option linter.unusedVariables false
set_option linter.unusedSimpArgs false
set_option maxRecDepth 100000
theorem cmpB6:CmpA 6:=all24 (cR (by decide) (by decide) (by kernel_rfl)) (cR (by decide) (by decide) (by kernel_rfl)) (cR (by decide) (by decide) (by kernel_rfl)) (cR (by decide) (by decide) (by kernel_rfl)) (cR (by decide) (by decide) (by kernel_rfl)) (cR (by decide) (by decide) (by kernel_rfl)) (cR (by decide) (by decide) (by kernel_rfl)) (cR (by decide) (by decide) (by kernel_rfl)) (cR (by decide) (by decide) (by kernel_rfl)) (cR (by decide) (by decide) (by kernel_rfl)) (cR (by decide) (by decide) (by kernel_rfl)) (cR (by decide) (by decide) (by kernel_rfl)) (cR (by decide) (by decide) (by kernel_rfl)) (cR (by decide) (by decide) (by kernel_rfl)) (cR (by decide) (by decide) (by kernel_rfl)) (cR (by decide) (by decide) (by kernel_rfl)) (cR (by decide) (by decide) (by kernel_rfl)) (cR (by decide) (by decide) (by kernel_rfl)) (cR (by decide) (by decide) (by kernel_rfl)) (cR (by decide) (by decide) (by kernel_rfl)) (cR (by decide) (by decide) (by kernel_rfl)) (cR (by decide) (by decide) (by kernel_rfl)) (cR (by decide) (by decide) (by kernel_rfl)) (cR (by decide) (by decide) (by kernel_rfl))
theorem cmpB7:CmpA 7:=all24 (cR (by decide) (by decide) (by kernel_rfl)) (cR (by decide) (by decide) (by kernel_rfl)) (cR (by decide) (by decide) (by kernel_rfl)) (cR (by decide) (by decide) (by kernel_rfl)) (cR (by decide) (by decide) (by kernel_rfl)) (cR (by decide) (by decide) (by kernel_rfl)) (cR (by decide) (by decide) (by kernel_rfl)) (cR (by decide) (by decide) (by kernel_rfl)) (cR (by decide) (by decide) (by kernel_rfl)) (cR (by decide) (by decide) (by kernel_rfl)) (cR (by decide) (by decide) (by kernel_rfl)) (cR (by decide) (by decide) (by kernel_rfl)) (cR (by decide) (by decide) (by kernel_rfl)) (cR (by decide) (by decide) (by kernel_rfl)) (cR (by decide) (by decide) (by kernel_rfl)) (cR (by decide) (by decide) (by kernel_rfl)) (cR (by decide) (by decide) (by kernel_rfl)) (cR (by decide) (by decide) (by kernel_rfl)) (cR (by decide) (by decide) (by kernel_rfl)) (cR (by decide) (by decide) (by kernel_rfl)) (cR (by decide) (by decide) (by kernel_rfl)) (cR (by decide) (by decide) (by kernel_rfl)) (cR (by decide) (by decide) (by kernel_rfl)) (cR (by decide) (by decide) (by kernel_rfl))
theorem cmpB8:CmpA 8:=all24 (cR (by decide) (by decide) (by kernel_rfl)) (cR (by decide) (by decide) (by kernel_rfl)) (cR (by decide) (by decide) (by kernel_rfl)) (cR (by decide) (by decide) (by kernel_rfl)) (cR (by decide) (by decide) (by kernel_rfl)) (cR (by decide) (by decide) (by kernel_rfl)) (cR (by decide) (by decide) (by kernel_rfl)) (cR (by decide) (by decide) (by kernel_rfl)) (cR (by decide) (by decide) (by kernel_rfl)) (cR (by decide) (by decide) (by kernel_rfl)) (cR (by decide) (by decide) (by kernel_rfl)) (cR (by decide) (by decide) (by kernel_rfl)) (cR (by decide) (by decide) (by kernel_rfl)) (cR (by decide) (by decide) (by kernel_rfl)) (cR (by decide) (by decide) (by kernel_rfl)) (cR (by decide) (by decide) (by kernel_rfl)) (cR (by decide) (by decide) (by kernel_rfl)) (cR (by decide) (by decide) (by kernel_rfl)) (cR (by decide) (by decide) (by kernel_rfl)) (cR (by decide) (by decide) (by kernel_rfl)) (cR (by decide) (by decide) (by kernel_rfl)) (cR (by decide) (by decide) (by kernel_rfl)) (cR (by decide) (by decide) (by kernel_rfl)) (cR (by decide) (by decide) (by kernel_rfl))
theorem cmpB9:CmpA 9:=all24 (cR (by decide) (by decide) (by kernel_rfl)) (cR (by decide) (by decide) (by kernel_rfl)) (cR (by decide) (by decide) (by kernel_rfl)) (cR (by decide) (by decide) (by kernel_rfl)) (cR (by decide) (by decide) (by kernel_rfl)) (cR (by decide) (by decide) (by kernel_rfl)) (cR (by decide) (by decide) (by kernel_rfl)) (cR (by decide) (by decide) (by kernel_rfl)) (cR (by decide) (by decide) (by kernel_rfl)) (cR (by decide) (by decide) (by kernel_rfl)) (cR (by decide) (by decide) (by kernel_rfl)) (cR (by decide) (by decide) (by kernel_rfl)) (cR (by decide) (by decide) (by kernel_rfl)) (cR (by decide) (by decide) (by kernel_rfl)) (cR (by decide) (by decide) (by kernel_rfl)) (cR (by decide) (by decide) (by kernel_rfl)) (cR (by decide) (by decide) (by kernel_rfl)) (cR (by decide) (by decide) (by kernel_rfl)) (cR (by decide) (by decide) (by kernel_rfl)) (cR (by decide) (by decide) (by kernel_rfl)) (cR (by decide) (by decide) (by kernel_rfl)) (cR (by decide) (by decide) (by kernel_rfl)) (cR (by decide) (by decide) (by kernel_rfl)) (cR (by decide) (by decide) (by kernel_rfl))
theorem cmpB10:CmpA 10:=all24 (cR (by decide) (by decide) (by kernel_rfl)) (cR (by decide) (by decide) (by kernel_rfl)) (cR (by decide) (by decide) (by kernel_rfl)) (cR (by decide) (by decide) (by kernel_rfl)) (cR (by decide) (by decide) (by kernel_rfl)) (cR (by decide) (by decide) (by kernel_rfl)) (cR (by decide) (by decide) (by kernel_rfl)) (cR (by decide) (by decide) (by kernel_rfl)) (cR (by decide) (by decide) (by kernel_rfl)) (cR (by decide) (by decide) (by kernel_rfl)) (cR (by decide) (by decide) (by kernel_rfl)) (cR (by decide) (by decide) (by kernel_rfl)) (cR (by decide) (by decide) (by kernel_rfl)) (cR (by decide) (by decide) (by kernel_rfl)) (cR (by decide) (by decide) (by kernel_rfl)) (cR (by decide) (by decide) (by kernel_rfl)) (cR (by decide) (by decide) (by kernel_rfl)) (cR (by decide) (by decide) (by kernel_rfl)) (cR (by decide) (by decide) (by kernel_rfl)) (cR (by decide) (by decide) (by kernel_rfl)) (cR (by decide) (by decide) (by kernel_rfl)) (cR (by decide) (by decide) (by kernel_rfl)) (cR (by decide) (by decide) (by kernel_rfl)) (cR (by decide) (by decide) (by kernel_rfl))
theorem cmpB11:CmpA 11:=all24 (cR (by decide) (by decide) (by kernel_rfl)) (cR (by decide) (by decide) (by kernel_rfl)) (cR (by decide) (by decide) (by kernel_rfl)) (cR (by decide) (by decide) (by kernel_rfl)) (cR (by decide) (by decide) (by kernel_rfl)) (cR (by decide) (by decide) (by kernel_rfl)) (cR (by decide) (by decide) (by kernel_rfl)) (cR (by decide) (by decide) (by kernel_rfl)) (cR (by decide) (by decide) (by kernel_rfl)) (cR (by decide) (by decide) (by kernel_rfl)) (cR (by decide) (by decide) (by kernel_rfl)) (cR (by decide) (by decide) (by kernel_rfl)) (cR (by decide) (by decide) (by kernel_rfl)) (cR (by decide) (by decide) (by kernel_rfl)) (cR (by decide) (by decide) (by kernel_rfl)) (cR (by decide) (by decide) (by kernel_rfl)) (cR (by decide) (by decide) (by kernel_rfl)) (cR (by decide) (by decide) (by kernel_rfl)) (cR (by decide) (by decide) (by kernel_rfl)) (cR (by decide) (by decide) (by kernel_rfl)) (cR (by decide) (by decide) (by kernel_rfl)) (cR (by decide) (by decide) (by kernel_rfl)) (cR (by decide) (by decide) (by kernel_rfl)) (cR (by decide) (by decide) (by kernel_rfl))
theorem cmpB12:CmpA 12:=all24 (cR (by decide) (by decide) (by kernel_rfl)) (cR (by decide) (by decide) (by kernel_rfl)) (cR (by decide) (by decide) (by kernel_rfl)) (cR (by decide) (by decide) (by kernel_rfl)) (cR (by decide) (by decide) (by kernel_rfl)) (cR (by decide) (by decide) (by kernel_rfl)) (cR (by decide) (by decide) (by kernel_rfl)) (cR (by decide) (by decide) (by kernel_rfl)) (cR (by decide) (by decide) (by kernel_rfl)) (cR (by decide) (by decide) (by kernel_rfl)) (cR (by decide) (by decide) (by kernel_rfl)) (cR (by decide) (by decide) (by kernel_rfl)) (cR (by decide) (by decide) (by kernel_rfl)) (cR (by decide) (by decide) (by kernel_rfl)) (cR (by decide) (by decide) (by kernel_rfl)) (cR (by decide) (by decide) (by kernel_rfl)) (cR (by decide) (by decide) (by kernel_rfl)) (cR (by decide) (by decide) (by kernel_rfl)) (cR (by decide) (by decide) (by kernel_rfl)) (cR (by decide) (by decide) (by kernel_rfl)) (cR (by decide) (by decide) (by kernel_rfl)) (cR (by decide) (by decide) (by kernel_rfl)) (cR (by decide) (by decide) (by kernel_rfl)) (cR (by decide) (by decide) (by kernel_rfl))
theorem cmpB13:CmpA 13:=all24 (cR (by decide) (by decide) (by kernel_rfl)) (cR (by decide) (by decide) (by kernel_rfl)) (cR (by decide) (by decide) (by kernel_rfl)) (cR (by decide) (by decide) (by kernel_rfl)) (cR (by decide) (by decide) (by kernel_rfl)) (cR (by decide) (by decide) (by kernel_rfl)) (cR (by decide) (by decide) (by kernel_rfl)) (cR (by decide) (by decide) (by kernel_rfl)) (cR (by decide) (by decide) (by kernel_rfl)) (cR (by decide) (by decide) (by kernel_rfl)) (cR (by decide) (by decide) (by kernel_rfl)) (cR (by decide) (by decide) (by kernel_rfl)) (cR (by decide) (by decide) (by kernel_rfl)) (cR (by decide) (by decide) (by kernel_rfl)) (cR (by decide) (by decide) (by kernel_rfl)) (cR (by decide) (by decide) (by kernel_rfl)) (cR (by decide) (by decide) (by kernel_rfl)) (cR (by decide) (by decide) (by kernel_rfl)) (cR (by decide) (by decide) (by kernel_rfl)) (cR (by decide) (by decide) (by kernel_rfl)) (cR (by decide) (by decide) (by kernel_rfl)) (cR (by decide) (by decide) (by kernel_rfl)) (cR (by decide) (by decide) (by kernel_rfl)) (cR (by decide) (by decide) (by kernel_rfl))
theorem cmpB14:CmpA 14:=all24 (cR (by decide) (by decide) (by kernel_rfl)) (cR (by decide) (by decide) (by kernel_rfl)) (cR (by decide) (by decide) (by kernel_rfl)) (cR (by decide) (by decide) (by kernel_rfl)) (cR (by decide) (by decide) (by kernel_rfl)) (cR (by decide) (by decide) (by kernel_rfl)) (cR (by decide) (by decide) (by kernel_rfl)) (cR (by decide) (by decide) (by kernel_rfl)) (cR (by decide) (by decide) (by kernel_rfl)) (cR (by decide) (by decide) (by kernel_rfl)) (cR (by decide) (by decide) (by kernel_rfl)) (cR (by decide) (by decide) (by kernel_rfl)) (cR (by decide) (by decide) (by kernel_rfl)) (cR (by decide) (by decide) (by kernel_rfl)) (cR (by decide) (by decide) (by kernel_rfl)) (cR (by decide) (by decide) (by kernel_rfl)) (cR (by decide) (by decide) (by kernel_rfl)) (cR (by decide) (by decide) (by kernel_rfl)) (cR (by decide) (by decide) (by kernel_rfl)) (cR (by decide) (by decide) (by kernel_rfl)) (cR (by decide) (by decide) (by kernel_rfl)) (cR (by decide) (by decide) (by kernel_rfl)) (cR (by decide) (by decide) (by kernel_rfl)) (cR (by decide) (by decide) (by kernel_rfl))
theorem cmpB15:CmpA 15:=all24 (cR (by decide) (by decide) (by kernel_rfl)) (cR (by decide) (by decide) (by kernel_rfl)) (cR (by decide) (by decide) (by kernel_rfl)) (cR (by decide) (by decide) (by kernel_rfl)) (cR (by decide) (by decide) (by kernel_rfl)) (cR (by decide) (by decide) (by kernel_rfl)) (cR (by decide) (by decide) (by kernel_rfl)) (cR (by decide) (by decide) (by kernel_rfl)) (cR (by decide) (by decide) (by kernel_rfl)) (cR (by decide) (by decide) (by kernel_rfl)) (cR (by decide) (by decide) (by kernel_rfl)) (cR (by decide) (by decide) (by kernel_rfl)) (cR (by decide) (by decide) (by kernel_rfl)) (cR (by decide) (by decide) (by kernel_rfl)) (cR (by decide) (by decide) (by kernel_rfl)) (cR (by decide) (by decide) (by kernel_rfl)) (cR (by decide) (by decide) (by kernel_rfl)) (cR (by decide) (by decide) (by kernel_rfl)) (cR (by decide) (by decide) (by kernel_rfl)) (cR (by decide) (by decide) (by kernel_rfl)) (cR (by decide) (by decide) (by kernel_rfl)) (cR (by decide) (by decide) (by kernel_rfl)) (cR (by decide) (by decide) (by kernel_rfl)) (cR (by decide) (by decide) (by kernel_rfl))
theorem cmpB16:CmpA 16:=all24 (cR (by decide) (by decide) (by kernel_rfl)) (cR (by decide) (by decide) (by kernel_rfl)) (cR (by decide) (by decide) (by kernel_rfl)) (cR (by decide) (by decide) (by kernel_rfl)) (cR (by decide) (by decide) (by kernel_rfl)) (cR (by decide) (by decide) (by kernel_rfl)) (cR (by decide) (by decide) (by kernel_rfl)) (cR (by decide) (by decide) (by kernel_rfl)) (cR (by decide) (by decide) (by kernel_rfl)) (cR (by decide) (by decide) (by kernel_rfl)) (cR (by decide) (by decide) (by kernel_rfl)) (cR (by decide) (by decide) (by kernel_rfl)) (cR (by decide) (by decide) (by kernel_rfl)) (cR (by decide) (by decide) (by kernel_rfl)) (cR (by decide) (by decide) (by kernel_rfl)) (cR (by decide) (by decide) (by kernel_rfl)) (cR (by decide) (by decide) (by kernel_rfl)) (cR (by decide) (by decide) (by kernel_rfl)) (cR (by decide) (by decide) (by kernel_rfl)) (cR (by decide) (by decide) (by kernel_rfl)) (cR (by decide) (by decide) (by kernel_rfl)) (cR (by decide) (by decide) (by kernel_rfl)) (cR (by decide) (by decide) (by kernel_rfl)) (cR (by decide) (by decide) (by kernel_rfl))
theorem cmpB17:CmpA 17:=all24 (cR (by decide) (by decide) (by kernel_rfl)) (cR (by decide) (by decide) (by kernel_rfl)) (cR (by decide) (by decide) (by kernel_rfl)) (cR (by decide) (by decide) (by kernel_rfl)) (cR (by decide) (by decide) (by kernel_rfl)) (cR (by decide) (by decide) (by kernel_rfl)) (cR (by decide) (by decide) (by kernel_rfl)) (cR (by decide) (by decide) (by kernel_rfl)) (cR (by decide) (by decide) (by kernel_rfl)) (cR (by decide) (by decide) (by kernel_rfl)) (cR (by decide) (by decide) (by kernel_rfl)) (cR (by decide) (by decide) (by kernel_rfl)) (cR (by decide) (by decide) (by kernel_rfl)) (cR (by decide) (by decide) (by kernel_rfl)) (cR (by decide) (by decide) (by kernel_rfl)) (cR (by decide) (by decide) (by kernel_rfl)) (cR (by decide) (by decide) (by kernel_rfl)) (cR (by decide) (by decide) (by kernel_rfl)) (cR (by decide) (by decide) (by kernel_rfl)) (cR (by decide) (by decide) (by kernel_rfl)) (cR (by decide) (by decide) (by kernel_rfl)) (cR (by decide) (by decide) (by kernel_rfl)) (cR (by decide) (by decide) (by kernel_rfl)) (cR (by decide) (by decide) (by kernel_rfl))
theorem cmpB18:CmpA 18:=all24 (cR (by decide) (by decide) (by kernel_rfl)) (cR (by decide) (by decide) (by kernel_rfl)) (cR (by decide) (by decide) (by kernel_rfl)) (cR (by decide) (by decide) (by kernel_rfl)) (cR (by decide) (by decide) (by kernel_rfl)) (cR (by decide) (by decide) (by kernel_rfl)) (cR (by decide) (by decide) (by kernel_rfl)) (cR (by decide) (by decide) (by kernel_rfl)) (cR (by decide) (by decide) (by kernel_rfl)) (cR (by decide) (by decide) (by kernel_rfl)) (cR (by decide) (by decide) (by kernel_rfl)) (cR (by decide) (by decide) (by kernel_rfl)) (cR (by decide) (by decide) (by kernel_rfl)) (cR (by decide) (by decide) (by kernel_rfl)) (cR (by decide) (by decide) (by kernel_rfl)) (cR (by decide) (by decide) (by kernel_rfl)) (cR (by decide) (by decide) (by kernel_rfl)) (cR (by decide) (by decide) (by kernel_rfl)) (cR (by decide) (by decide) (by kernel_rfl)) (cR (by decide) (by decide) (by kernel_rfl)) (cR (by decide) (by decide) (by kernel_rfl)) (cR (by decide) (by decide) (by kernel_rfl)) (cR (by decide) (by decide) (by kernel_rfl)) (cR (by decide) (by decide) (by kernel_rfl))
theorem cmpB19:CmpA 19:=all24 (cR (by decide) (by decide) (by kernel_rfl)) (cR (by decide) (by decide) (by kernel_rfl)) (cR (by decide) (by decide) (by kernel_rfl)) (cR (by decide) (by decide) (by kernel_rfl)) (cR (by decide) (by decide) (by kernel_rfl)) (cR (by decide) (by decide) (by kernel_rfl)) (cR (by decide) (by decide) (by kernel_rfl)) (cR (by decide) (by decide) (by kernel_rfl)) (cR (by decide) (by decide) (by kernel_rfl)) (cR (by decide) (by decide) (by kernel_rfl)) (cR (by decide) (by decide) (by kernel_rfl)) (cR (by decide) (by decide) (by kernel_rfl)) (cR (by decide) (by decide) (by kernel_rfl)) (cR (by decide) (by decide) (by kernel_rfl)) (cR (by decide) (by decide) (by kernel_rfl)) (cR (by decide) (by decide) (by kernel_rfl)) (cR (by decide) (by decide) (by kernel_rfl)) (cR (by decide) (by decide) (by kernel_rfl)) (cR (by decide) (by decide) (by kernel_rfl)) (cR (by decide) (by decide) (by kernel_rfl)) (cR (by decide) (by decide) (by kernel_rfl)) (cR (by decide) (by decide) (by kernel_rfl)) (cR (by decide) (by decide) (by kernel_rfl)) (cR (by decide) (by decide) (by kernel_rfl))
theorem cmpB20:CmpA 20:=all24 (cR (by decide) (by decide) (by kernel_rfl)) (cR (by decide) (by decide) (by kernel_rfl)) (cR (by decide) (by decide) (by kernel_rfl)) (cR (by decide) (by decide) (by kernel_rfl)) (cR (by decide) (by decide) (by kernel_rfl)) (cR (by decide) (by decide) (by kernel_rfl)) (cR (by decide) (by decide) (by kernel_rfl)) (cR (by decide) (by decide) (by kernel_rfl)) (cR (by decide) (by decide) (by kernel_rfl)) (cR (by decide) (by decide) (by kernel_rfl)) (cR (by decide) (by decide) (by kernel_rfl)) (cR (by decide) (by decide) (by kernel_rfl)) (cR (by decide) (by decide) (by kernel_rfl)) (cR (by decide) (by decide) (by kernel_rfl)) (cR (by decide) (by decide) (by kernel_rfl)) (cR (by decide) (by decide) (by kernel_rfl)) (cR (by decide) (by decide) (by kernel_rfl)) (cR (by decide) (by decide) (by kernel_rfl)) (cR (by decide) (by decide) (by kernel_rfl)) (cR (by decide) (by decide) (by kernel_rfl)) (cR (by decide) (by decide) (by kernel_rfl)) (cR (by decide) (by decide) (by kernel_rfl)) (cR (by decide) (by decide) (by kernel_rfl)) (cR (by decide) (by decide) (by kernel_rfl))
theorem cmpB21:CmpA 21:=all24 (cR (by decide) (by decide) (by kernel_rfl)) (cR (by decide) (by decide) (by kernel_rfl)) (cR (by decide) (by decide) (by kernel_rfl)) (cR (by decide) (by decide) (by kernel_rfl)) (cR (by decide) (by decide) (by kernel_rfl)) (cR (by decide) (by decide) (by kernel_rfl)) (cR (by decide) (by decide) (by kernel_rfl)) (cR (by decide) (by decide) (by kernel_rfl)) (cR (by decide) (by decide) (by kernel_rfl)) (cR (by decide) (by decide) (by kernel_rfl)) (cR (by decide) (by decide) (by kernel_rfl)) (cR (by decide) (by decide) (by kernel_rfl)) (cR (by decide) (by decide) (by kernel_rfl)) (cR (by decide) (by decide) (by kernel_rfl)) (cR (by decide) (by decide) (by kernel_rfl)) (cR (by decide) (by decide) (by kernel_rfl)) (cR (by decide) (by decide) (by kernel_rfl)) (cR (by decide) (by decide) (by kernel_rfl)) (cR (by decide) (by decide) (by kernel_rfl)) (cR (by decide) (by decide) (by kernel_rfl)) (cR (by decide) (by decide) (by kernel_rfl)) (cR (by decide) (by decide) (by kernel_rfl)) (cR (by decide) (by decide) (by kernel_rfl)) (cR (by decide) (by decide) (by kernel_rfl))
theorem cmpB22:CmpA 22:=all24 (cR (by decide) (by decide) (by kernel_rfl)) (cR (by decide) (by decide) (by kernel_rfl)) (cR (by decide) (by decide) (by kernel_rfl)) (cR (by decide) (by decide) (by kernel_rfl)) (cR (by decide) (by decide) (by kernel_rfl)) (cR (by decide) (by decide) (by kernel_rfl)) (cR (by decide) (by decide) (by kernel_rfl)) (cR (by decide) (by decide) (by kernel_rfl)) (cR (by decide) (by decide) (by kernel_rfl)) (cR (by decide) (by decide) (by kernel_rfl)) (cR (by decide) (by decide) (by kernel_rfl)) (cR (by decide) (by decide) (by kernel_rfl)) (cR (by decide) (by decide) (by kernel_rfl)) (cR (by decide) (by decide) (by kernel_rfl)) (cR (by decide) (by decide) (by kernel_rfl)) (cR (by decide) (by decide) (by kernel_rfl)) (cR (by decide) (by decide) (by kernel_rfl)) (cR (by decide) (by decide) (by kernel_rfl)) (cR (by decide) (by decide) (by kernel_rfl)) (cR (by decide) (by decide) (by kernel_rfl)) (cR (by decide) (by decide) (by kernel_rfl)) (cR (by decide) (by decide) (by kernel_rfl)) (cR (by decide) (by decide) (by kernel_rfl)) (cR (by decide) (by decide) (by kernel_rfl))
theorem cmpB23:CmpA 23:=all24 (cR (by decide) (by decide) (by kernel_rfl)) (cR (by decide) (by decide) (by kernel_rfl)) (cR (by decide) (by decide) (by kernel_rfl)) (cR (by decide) (by decide) (by kernel_rfl)) (cR (by decide) (by decide) (by kernel_rfl)) (cR (by decide) (by decide) (by kernel_rfl)) (cR (by decide) (by decide) (by kernel_rfl)) (cR (by decide) (by decide) (by kernel_rfl)) (cR (by decide) (by decide) (by kernel_rfl)) (cR (by decide) (by decide) (by kernel_rfl)) (cR (by decide) (by decide) (by kernel_rfl)) (cR (by decide) (by decide) (by kernel_rfl)) (cR (by decide) (by decide) (by kernel_rfl)) (cR (by decide) (by decide) (by kernel_rfl)) (cR (by decide) (by decide) (by kernel_rfl)) (cR (by decide) (by decide) (by kernel_rfl)) (cR (by decide) (by decide) (by kernel_rfl)) (cR (by decide) (by decide) (by kernel_rfl)) (cR (by decide) (by decide) (by kernel_rfl)) (cR (by decide) (by decide) (by kernel_rfl)) (cR (by decide) (by decide) (by kernel_rfl)) (cR (by decide) (by decide) (by kernel_rfl)) (cR (by decide) (by decide) (by kernel_rfl)) (cR (by decide) (by decide) (by kernel_rfl))
def kpM:FuncId→Nat→Option (List Tmp):=slotsOf [(12,0,[0,2,5,7,8,11,35,36,37])]
def moM (f:FuncId):Nat:=bif inN [40] f then 3 else bif inN [24] f then 4 else 0
noncomputable def cfM (c:V):Cfg:={ cfgG Tryd.prog glX moM poP (rtP c) (inN []) kpM with clean:=fun g=>true }
noncomputable def sh38 (l:List Kd) (m:List Bk) (n:Int) (d:Cl) (rs:List (List V)) (s i:Nat):St:=⟨mkT [(0,V.lst 3 (kdl l)),(2,iv n),(5,V.ptr (Id.p 0) 0 0),(7,V.ptr (Id.p 1) 0 0),(8,V.ptr (Id.p 2) 0 0),(11,V.sl (Id.p 3) 0 s),(35,V.lst 6 (bkl m)),(36,iv (s:Int)),(37,iv (i:Int))],⟨[(0,O.rows 1 false [[V.lst 6 (bkl m)]]),(1,O.rows 3 false [clr d]),(2,O.rows 1 false [[nilS]]),(3,O.rows 6 true rs)],4,[]⟩⟩
set_option maxRecDepth 10000
theorem hcM (c:V):(cfM c).ok Tryd.prog:=by
 have h:(cfgG Tryd.prog glX moM poP (rtP c) (inN []) kpM).ok Tryd.prog:=cfgG_ok (rtP_ok c)
 exact ⟨h.1,h.2⟩
theorem compose86 : ∀ a,a<24 → ∀ b,b<24→K0G Tryd.prog glX 42 [iv ((a:Nat):Int),iv ((b:Nat):Int)] fun v=>v=iv (comp a b:Int) :=
 all24 (P:=fun a => ∀ b,b<24→K0G Tryd.prog glX 42 [iv ((a:Nat):Int),iv ((b:Nat):Int)] fun v=>v=iv (comp a b:Int)) cmpB0 cmpB1 cmpB2 cmpB3 cmpB4 cmpB5 cmpB6 cmpB7 cmpB8 cmpB9 cmpB10 cmpB11 cmpB12 cmpB13 cmpB14 cmpB15 cmpB16 cmpB17 cmpB18 cmpB19 cmpB20 cmpB21 cmpB22 cmpB23
theorem place78 {c:Cl} {R:V→Prop} (h:R (bv (dc (Bd 1000 c)))):K0G Tryd.prog glX 22 [.agg (clr c)] R:=by
 refine K0_by hmX (hcM fN) 3000 Tryd.func22 (p:=K0G Tryd.prog glX 38 [V.agg [iv c.1,iv c.2.1,iv c.2.2],iv (-1000:Int),iv (1000:Int)] fun v=>onBool v fun b=>R (bv b)) (by kernel_rfl) ?_
 exact near84 (onBool_bv h)
theorem turn77 {n:Int} {R:V→Prop} (h:R (bv (dc (0≤n∧n≤23)))):K0G Tryd.prog glX 21 [iv n] R:=by
 refine K0_by hmX (hcM fN) 3000 Tryd.func21 (p:=K0G Tryd.prog glX 37 [iv n,iv (0:Int),iv (23:Int)] fun v=>onBool v fun b=>R (bv b)) (by kernel_rfl) ?_
 exact within52 (onBool_bv h)
def mvB (t:Nat) (d:Cl) (b:Bk):Bk:=(b.1,addC (tn t b.2.1) d,((comp b.2.2.1.toNat t:Nat):Int),b.2.2.2)
theorem move79A {k:Int} {b:Bk} {t:Nat} {d:Cl} {R:V→Prop} (hch:K0G Tryd.prog glX 40 [iv (t:Int)] fun v=>v=(chA k)) (hcell : ∀ {c:Cl} {R:V→Prop},Bd 3000 c→R (.agg (clr (tn t c)))→K0G Tryd.prog glX 41 [(chA k),.agg (clr c)] R) (ht:t<24) (hb0:0≤b.2.2.1) (hb:b.2.2.1<24) (hB:Bd 1000 b.2.1) (hd:Bd 1000 d) (h:R (.agg (bkr (mvB t d b)))):K0G Tryd.prog glX 23 [.agg (bkr b),iv (t:Int),.agg (clr d)] R:=by
 refine K0_by hmX (hcM (chA k)) 3000 Tryd.func23 (p:=KM Tryd.prog glX 40 [iv (↑t:Int)] (Hp.mk [] 0 []) (poP 40 [iv (↑t:Int)]) fun v us=>v=V.agg [V.fn (Fn.func (57:FuncId)) [] [],iv k,V.raw Value.nilFunc,iv (0:Int),V.raw Value.nilFunc,iv (0:Int)]∧K0G Tryd.prog glX 41 [V.agg [V.fn (Fn.func (57:FuncId)) [] [],iv k,V.raw Value.nilFunc,iv (0:Int),V.raw Value.nilFunc,iv (0:Int)],V.agg [iv b.2.1.1,iv b.2.1.2.1,iv b.2.1.2.2]] fun v=>onAgg v fun cs=>onCons cs fun u r=>onIntK IntKind.i64 u fun n=>onCons r fun u r=>onIntK IntKind.i64 u fun n_1=>onCons r fun u r=>onIntK IntKind.i64 u fun n_2=>onNil r (K0G Tryd.prog glX 39 [V.agg [iv n,iv n_1,iv n_2],V.agg [iv d.1,iv d.2.1,iv d.2.2]] fun v=>onAgg v fun cs=>onCons cs fun u r=>onIntK IntKind.i64 u fun n=>onCons r fun u r=>onIntK IntKind.i64 u fun n_3=>onCons r fun u r=>onIntK IntKind.i64 u fun n_4=>onNil r (K0G Tryd.prog glX 42 [iv (IntKind.i64.wrap b.2.2.1),iv (↑t:Int)] fun v=>onIntK IntKind.i64 v fun n_5=>R (V.agg [iv b.1,iv n,iv n_3,iv n_4,V.raw (Value.int IntKind.u8 (IntKind.u8.wrap n_5)),V.raw (Value.int IntKind.u8 b.2.2.2)])))) (by kernel_rfl) ?_
 refine KM_of_K0 rfl rfl (hch.mono' fun v e=>⟨e,?_⟩)
 refine hcell (c:=b.2.1) (hB.mono (by omega)) (onAgg_agg (onCons_cons (onIntK_iv (onCons_cons (onIntK_iv (onCons_cons (onIntK_iv (onNil_nil ?_))))))))
 refine add97 (a:=tn t b.2.1) (b:=d) ((tn_bd hB).mono (by omega)) (hd.mono (by omega)) (onAgg_agg (onCons_cons (onIntK_iv (onCons_cons (onIntK_iv (onCons_cons (onIntK_iv (onNil_nil ?_))))))))
 rw [wr (n:=b.2.2.1) (by omega) (by omega)]
 have hu:b.2.2.1=((b.2.2.1.toNat:Nat):Int):=by omega
 have hlt:b.2.2.1.toNat<24:=by omega
 have hc:=comp_lt hlt ht
 have h2:=compose86 b.2.2.1.toNat hlt t ht
 rw [← hu] at h2
 refine h2.mono' (fun v e=>e ▸ onIntK_iv ?_)
 rw [u8w (by omega) (by omega)]
 exact h
theorem move79B {k s:Int} {b:Bk} {t:Nat} {d:Cl} {R:V→Prop} (hch:K0G Tryd.prog glX 40 [iv (t:Int)] fun v=>v=(chB k s)) (hcell : ∀ {c:Cl} {R:V→Prop},Bd 3000 c→R (.agg (clr (tn t c)))→K0G Tryd.prog glX 41 [(chB k s),.agg (clr c)] R) (ht:t<24) (hb0:0≤b.2.2.1) (hb:b.2.2.1<24) (hB:Bd 1000 b.2.1) (hd:Bd 1000 d) (h:R (.agg (bkr (mvB t d b)))):K0G Tryd.prog glX 23 [.agg (bkr b),iv (t:Int),.agg (clr d)] R:=by
 refine K0_by hmX (hcM (chB k s)) 3000 Tryd.func23 (p:=KM Tryd.prog glX 40 [iv (↑t:Int)] (Hp.mk [] 0 []) (poP 40 [iv (↑t:Int)]) fun v us=>v=V.agg [V.fn (Fn.func (57:FuncId)) [] [],iv k,V.fn (Fn.func (56:FuncId)) [] [],iv s,V.raw Value.nilFunc,iv (0:Int)]∧K0G Tryd.prog glX 41 [V.agg [V.fn (Fn.func (57:FuncId)) [] [],iv k,V.fn (Fn.func (56:FuncId)) [] [],iv s,V.raw Value.nilFunc,iv (0:Int)],V.agg [iv b.2.1.1,iv b.2.1.2.1,iv b.2.1.2.2]] fun v=>onAgg v fun cs=>onCons cs fun u r=>onIntK IntKind.i64 u fun n=>onCons r fun u r=>onIntK IntKind.i64 u fun n_1=>onCons r fun u r=>onIntK IntKind.i64 u fun n_2=>onNil r (K0G Tryd.prog glX 39 [V.agg [iv n,iv n_1,iv n_2],V.agg [iv d.1,iv d.2.1,iv d.2.2]] fun v=>onAgg v fun cs=>onCons cs fun u r=>onIntK IntKind.i64 u fun n=>onCons r fun u r=>onIntK IntKind.i64 u fun n_3=>onCons r fun u r=>onIntK IntKind.i64 u fun n_4=>onNil r (K0G Tryd.prog glX 42 [iv (IntKind.i64.wrap b.2.2.1),iv (↑t:Int)] fun v=>onIntK IntKind.i64 v fun n_5=>R (V.agg [iv b.1,iv n,iv n_3,iv n_4,V.raw (Value.int IntKind.u8 (IntKind.u8.wrap n_5)),V.raw (Value.int IntKind.u8 b.2.2.2)])))) (by kernel_rfl) ?_
 refine KM_of_K0 rfl rfl (hch.mono' fun v e=>⟨e,?_⟩)
 refine hcell (c:=b.2.1) (hB.mono (by omega)) (onAgg_agg (onCons_cons (onIntK_iv (onCons_cons (onIntK_iv (onCons_cons (onIntK_iv (onNil_nil ?_))))))))
 refine add97 (a:=tn t b.2.1) (b:=d) ((tn_bd hB).mono (by omega)) (hd.mono (by omega)) (onAgg_agg (onCons_cons (onIntK_iv (onCons_cons (onIntK_iv (onCons_cons (onIntK_iv (onNil_nil ?_))))))))
 rw [wr (n:=b.2.2.1) (by omega) (by omega)]
 have hu:b.2.2.1=((b.2.2.1.toNat:Nat):Int):=by omega
 have hlt:b.2.2.1.toNat<24:=by omega
 have hc:=comp_lt hlt ht
 have h2:=compose86 b.2.2.1.toNat hlt t ht
 rw [← hu] at h2
 refine h2.mono' (fun v e=>e ▸ onIntK_iv ?_)
 rw [u8w (by omega) (by omega)]
 exact h
theorem move79C {k j:Int} {b:Bk} {t:Nat} {d:Cl} {R:V→Prop} (hch:K0G Tryd.prog glX 40 [iv (t:Int)] fun v=>v=(chC k j)) (hcell : ∀ {c:Cl} {R:V→Prop},Bd 3000 c→R (.agg (clr (tn t c)))→K0G Tryd.prog glX 41 [(chC k j),.agg (clr c)] R) (ht:t<24) (hb0:0≤b.2.2.1) (hb:b.2.2.1<24) (hB:Bd 1000 b.2.1) (hd:Bd 1000 d) (h:R (.agg (bkr (mvB t d b)))):K0G Tryd.prog glX 23 [.agg (bkr b),iv (t:Int),.agg (clr d)] R:=by
 refine K0_by hmX (hcM (chC k j)) 3000 Tryd.func23 (p:=KM Tryd.prog glX 40 [iv (↑t:Int)] (Hp.mk [] 0 []) (poP 40 [iv (↑t:Int)]) fun v us=>v=V.agg [V.fn (Fn.func (57:FuncId)) [] [],iv k,V.fn (Fn.func (56:FuncId)) [] [],iv (1:Int),V.fn (Fn.func (57:FuncId)) [] [],iv j]∧K0G Tryd.prog glX 41 [V.agg [V.fn (Fn.func (57:FuncId)) [] [],iv k,V.fn (Fn.func (56:FuncId)) [] [],iv (1:Int),V.fn (Fn.func (57:FuncId)) [] [],iv j],V.agg [iv b.2.1.1,iv b.2.1.2.1,iv b.2.1.2.2]] fun v=>onAgg v fun cs=>onCons cs fun u r=>onIntK IntKind.i64 u fun n=>onCons r fun u r=>onIntK IntKind.i64 u fun n_1=>onCons r fun u r=>onIntK IntKind.i64 u fun n_2=>onNil r (K0G Tryd.prog glX 39 [V.agg [iv n,iv n_1,iv n_2],V.agg [iv d.1,iv d.2.1,iv d.2.2]] fun v=>onAgg v fun cs=>onCons cs fun u r=>onIntK IntKind.i64 u fun n=>onCons r fun u r=>onIntK IntKind.i64 u fun n_3=>onCons r fun u r=>onIntK IntKind.i64 u fun n_4=>onNil r (K0G Tryd.prog glX 42 [iv (IntKind.i64.wrap b.2.2.1),iv (↑t:Int)] fun v=>onIntK IntKind.i64 v fun n_5=>R (V.agg [iv b.1,iv n,iv n_3,iv n_4,V.raw (Value.int IntKind.u8 (IntKind.u8.wrap n_5)),V.raw (Value.int IntKind.u8 b.2.2.2)])))) (by kernel_rfl) ?_
 refine KM_of_K0 rfl rfl (hch.mono' fun v e=>⟨e,?_⟩)
 refine hcell (c:=b.2.1) (hB.mono (by omega)) (onAgg_agg (onCons_cons (onIntK_iv (onCons_cons (onIntK_iv (onCons_cons (onIntK_iv (onNil_nil ?_))))))))
 refine add97 (a:=tn t b.2.1) (b:=d) ((tn_bd hB).mono (by omega)) (hd.mono (by omega)) (onAgg_agg (onCons_cons (onIntK_iv (onCons_cons (onIntK_iv (onCons_cons (onIntK_iv (onNil_nil ?_))))))))
 rw [wr (n:=b.2.2.1) (by omega) (by omega)]
 have hu:b.2.2.1=((b.2.2.1.toNat:Nat):Int):=by omega
 have hlt:b.2.2.1.toNat<24:=by omega
 have hc:=comp_lt hlt ht
 have h2:=compose86 b.2.2.1.toNat hlt t ht
 rw [← hu] at h2
 refine h2.mono' (fun v e=>e ▸ onIntK_iv ?_)
 rw [u8w (by omega) (by omega)]
 exact h
theorem move79 {b:Bk} {t:Nat} {d:Cl} {R:V→Prop} (ht:t<24) (hb0:0≤b.2.2.1) (hb:b.2.2.1<24) (hB:Bd 1000 b.2.1) (hd:Bd 1000 d) (h:R (.agg (bkr (mvB t d b)))):K0G Tryd.prog glX 23 [.agg (bkr b),iv (t:Int),.agg (clr d)] R:=by
 have c1:K0G Tryd.prog glX 40 [iv (t:Int)] fun v=>v=ch t:=chain82 t ht rfl
 have c2 : ∀ {c:Cl} {R:V→Prop},Bd 3000 c→R (.agg (clr (tn t c)))→K0G Tryd.prog glX 41 [ch t,.agg (clr c)] R:=fun hb h=>cell85 hb t ht h
 unfold ch at c1 c2
 by_cases h1:t / 4<1
 ·rw [if_pos h1] at c1 c2
  exact move79A c1 c2 ht hb0 hb hB hd h
 ·rw [if_neg h1] at c1 c2
  by_cases h2:t / 4<4
  ·rw [if_pos h2] at c1 c2
   exact move79B c1 c2 ht hb0 hb hB hd h
  ·rw [if_neg h2] at c1 c2
   exact move79C c1 c2 ht hb0 hb hB hd h
theorem set_fill {α:Type} {A:List α} {s i:Nat} {x z:α} (hA:A.length=i) (hi:i<s):(A++List.replicate (s - i) z).set (0+i) x=A++[x]++List.replicate (s - (i+1)) z:=by
 rw [Nat.zero_add]
 exact set_rep hA hi
def bk0:List V:=[iv (0:Int),iv (0:Int),iv (0:Int),iv (0:Int),V.raw (Value.int IntKind.u8 (0:Int)),V.raw (Value.int IntKind.u8 (0:Int))]
set_option maxRecDepth 100000
def kpQA:FuncId→Nat→Option (List Tmp):=slotsOf [(7,0,[0,1,5]),(14,0,[2,3,5]),(10,0,[4,9,38,39,40]),(10,2,[4,9,38,39,40,45,46,47]),(11,0,[0,3,4,7,8]),(11,2,[0,3,4,7,8,9,10])]
noncomputable def cfQA:Cfg:={ cfgG Tryd.prog glX moZ poP (rtP fN) (inN []) kpQA with clean:=fun g=>true }
noncomputable def sh7 (a b:List (Nat×Nat)) (i:Nat):St:=⟨mkT [(0,V.lst 2 (prl a)),(1,V.lst 2 (prl b)),(5,iv (i:Int))],⟨[],0,[]⟩⟩
noncomputable def sh14 (a b:List Bk) (i:Nat):St:=⟨mkT [(2,V.ptr (Id.p 0) 0 0),(3,V.ptr (Id.p 1) 0 0),(5,iv (i:Int))],⟨[(0,O.rows 1 false [[V.lst 6 (bkl a)]]),(1,O.rows 1 false [[V.lst 6 (bkl b)]])],2,[]⟩⟩
abbrev Sp:=Cl×Cl
def spr (s:Sp):List V:=[iv s.1.1,iv s.1.2.1,iv s.1.2.2,iv s.2.1,iv s.2.2.1,iv s.2.2.2]
noncomputable def sh10a (l:List (List Cl×List Kn)) (s:Sp) (n i:Nat):St:=⟨mkT [(4,V.ptr (Id.p 0) 0 0),(9,V.ptr (Id.p 1) 0 0),(38,V.lst 2 (bdl l)),(39,iv (n:Int)),(40,iv (i:Int))],⟨[(0,O.rows 6 false [spr ((0,0,0),0,0,0)]),(1,O.rows 6 false [spr s])],2,[]⟩⟩
noncomputable def sh10b (l:List (List Cl×List Kn)) (s:Sp) (n i:Nat) (c:List Cl) (e k:Nat):St:=⟨mkT [(4,V.ptr (Id.p 0) 0 0),(9,V.ptr (Id.p 1) 0 0),(38,V.lst 2 (bdl l)),(39,iv (n:Int)),(40,iv (i:Int)),(45,V.lst 3 (cll c)),(46,iv (e:Int)),(47,iv (k:Int))],⟨[(0,O.rows 6 false [spr ((0,0,0),0,0,0)]),(1,O.rows 6 false [spr s])],2,[]⟩⟩
noncomputable def sh11a (l:List Kd) (m:List Bk) (s:Sp) (i:Nat):St:=⟨mkT [(0,V.lst 3 (kdl l)),(3,V.ptr (Id.p 0) 0 0),(4,V.ptr (Id.p 1) 0 0),(7,V.ptr (Id.p 2) 0 0),(8,iv (i:Int))],⟨[(0,O.rows 1 false [[V.lst 6 (bkl m)]]),(1,O.rows 6 false [spr ((0,0,0),0,0,0)]),(2,O.rows 6 false [spr s])],3,[]⟩⟩
noncomputable def sh11b (l:List Kd) (m:List Bk) (s:Sp) (i:Nat) (c:List Cl) (k:Nat):St:=⟨mkT [(0,V.lst 3 (kdl l)),(3,V.ptr (Id.p 0) 0 0),(4,V.ptr (Id.p 1) 0 0),(7,V.ptr (Id.p 2) 0 0),(8,iv (i:Int)),(9,V.lst 3 (cll c)),(10,iv (k:Int))],⟨[(0,O.rows 1 false [[V.lst 6 (bkl m)]]),(1,O.rows 6 false [spr ((0,0,0),0,0,0)]),(2,O.rows 6 false [spr s])],3,[]⟩⟩
set_option maxRecDepth 10000
theorem hcQA:cfQA.ok Tryd.prog:=by
 have h:(cfgG Tryd.prog glX moZ poP (rtP fN) (inN []) kpQA).ok Tryd.prog:=cfgG_ok (rtP_ok fN)
 exact ⟨h.1,h.2⟩
theorem prl_length (l:List (Nat×Nat)):(prl l).length=l.length:=by simp [prl]
theorem pel {l:List (Nat×Nat)} {i:Nat} {x:Nat×Nat} {k:Int→Int→Prop} (h:l[i]? = some x) (hk:k (x.1:Int) (x.2:Int)):onSome (prl l)[i]? fun row=>onCons (List.drop 0 row) fun u r=>onIntK IntKind.i64 u fun n=>onCons r fun u r=>onIntK IntKind.i64 u fun n_1=>k n n_1:=onSome_mk (x:=[iv (x.1:Int),iv (x.2:Int)]) (by simp [prl,h]) hk
theorem same7 {a b:List (Nat×Nat)} {R:V→Prop} (hab:b=a) (hl:a.length≤1000000) (h:R (bv true)):K0G Tryd.prog glX 7 [.lst 2 (prl a),.lst 2 (prl b)] R:=by
 refine K0_by hmX hcQA 3000 Tryd.func7 (p:=ifB ((↑(prl a).length:Int) != (↑(prl b).length:Int)) (R (bv false)) (La 0 [(0:Tmp),(1:Tmp),(5:Tmp)] (WY Tryd.prog cfQA 2994 (Env.mk (Bs.mk 0 []) 0 none 26 7 0) (cdAt [1,1,0,1,0,0] (bodyOf Tryd.f7))) (Qblk 0 (Qthen (WY Tryd.prog cfQA 2997 (Env.mk (Bs.mk 0 []) 0 none 26 7 0) (cdAt [1,1,1] (bodyOf Tryd.f7)) (QendX Tryd.prog Tryd.f7 fun v h=>R (frzW h v))) (QendX Tryd.prog Tryd.f7 fun v h=>R (frzW h v)))) (St.mk (mkT [(0,V.lst 2 (prl a)),(1,V.lst 2 (prl b)),(5,iv (0:Int))]) (Hp.mk [] 0 [])))) (by kernel_rfl) ?_
 rw [prl_length,prl_length]
 refine ifB_f (by simp [hab]) ?_
 refine La.of (σ:=Nat) (fun i=>sh7 a b i) (fun i=>i≤a.length) (fun i=>a.length - i) 0 (by kernel_rfl) (by omega) ?_
 rintro i g1 J hJ
 refine see (p:=ifB (decide ((↑i:Int)<(↑(prl a).length:Int))) (onSome (prl a)[i]? fun row=>onCons (List.drop 0 row) fun u r=>onIntK IntKind.i64 u fun n=>onCons r fun u r=>onIntK IntKind.i64 u fun n_1=>onSome (prl b)[i]? fun row=>onCons (List.drop 0 row) fun u r=>onIntK IntKind.i64 u fun n_2=>onCons r fun u r=>onIntK IntKind.i64 u fun n_3=>ifB (!(fun b=>n==n_2&&b) ((fun b=>n_1==n_3&&b) true)) (R (bv false)) (J (St.mk (mkT [(0,V.lst 2 (prl a)),(1,V.lst 2 (prl b)),(5,iv (IntKind.i64.wrap ((↑i:Int)+(1:Int))))]) (Hp.mk [] 0 [])))) (R (bv true))) (by kernel_rfl) ?_
 rw [prl_length]
 refine ifB_mk (fun d=>?_) (fun d=>h)
 have hi:i<a.length:=by have:=of_decide_eq_true d; omega
 obtain ⟨x,hx⟩:=getI hi
 refine pel hx (pel (hab ▸ hx) (ifB_f (by simp) ?_))
 rw [wr1i hi (by omega)]
 exact hJ (i+1) hi (by omega)
theorem same7n {s t:Nat} {R:V→Prop} (h:R (bv true)):K0G Tryd.prog glX 7 [.lst s [],.lst t []] R :=
 K0_args (same7 (a:=[]) (b:=[]) rfl (by simp) h) (fun F w xs hx=>by
  simpa [riL,ri,riRows,prl] using hx)
theorem same14 {a b:List Bk} {R:V→Prop} (hl:a.length≤1000000) (h:R (bv (dc (a=b)))):K0G Tryd.prog glX 14 [.agg [.lst 6 (bkl a)],.agg [.lst 6 (bkl b)]] R:=by
 refine K0_by hmX hcQA 3000 Tryd.func14 (p:=ifB ((↑(bkl a).length:Int) != (↑(bkl b).length:Int)) (R (bv false)) (La 0 [(2:Tmp),(3:Tmp),(5:Tmp)] (WY Tryd.prog cfQA 2994 (Env.mk (Bs.mk 0 []) 0 none 31 14 0) (cdAt [1,1,0,1,0,0] (bodyOf Tryd.f14))) (Qblk 0 (Qthen (WY Tryd.prog cfQA 2997 (Env.mk (Bs.mk 0 []) 0 none 31 14 0) (cdAt [1,1,1] (bodyOf Tryd.f14)) (QendX Tryd.prog Tryd.f14 fun v h=>R (frzW h v))) (QendX Tryd.prog Tryd.f14 fun v h=>R (frzW h v)))) (St.mk (mkT [(2,V.ptr (Id.p 0) 0 0),(3,V.ptr (Id.p 1) 0 0),(5,iv (0:Int))]) (Hp.mk [(0,O.rows 1 false [[V.lst 6 (bkl a)]]),(1,O.rows 1 false [[V.lst 6 (bkl b)]])] 2 [])))) (by kernel_rfl) ?_
 rw [bkl_length,bkl_length]
 refine ifB_mk (fun c=>rf h (fun e=>by rw [e] at c; simp at c)) (fun c=>?_)
 have hlen:a.length=b.length:=by simp at c; omega
 refine La.of (σ:=Nat) (fun i=>sh14 a b i) (fun i=>i≤a.length∧a.take i=b.take i) (fun i=>a.length - i) 0 (by kernel_rfl) ⟨by omega,by simp⟩ ?_
 rintro i ⟨g1,g2⟩ J hJ
 refine see (p:=ifB (decide ((↑i:Int)<(↑(bkl a).length:Int))) (onSome (bkl a)[i]? fun row=>onCons (List.drop 0 row) fun u r=>onIntK IntKind.i64 u fun n=>onCons r fun u r=>onIntK IntKind.i64 u fun n_1=>onCons r fun u r=>onIntK IntKind.i64 u fun n_2=>onCons r fun u r=>onIntK IntKind.i64 u fun n_3=>onCons r fun u r=>onIntK IntKind.u8 u fun n_4=>onCons r fun u r=>onIntK IntKind.u8 u fun n_5=>onSome (bkl b)[i]? fun row=>onCons (List.drop 0 row) fun u r=>onIntK IntKind.i64 u fun n_6=>onCons r fun u r=>onIntK IntKind.i64 u fun n_7=>onCons r fun u r=>onIntK IntKind.i64 u fun n_8=>onCons r fun u r=>onIntK IntKind.i64 u fun n_9=>onCons r fun u r=>onIntK IntKind.u8 u fun n_10=>onCons r fun u r=>onIntK IntKind.u8 u fun n_11=>ifB (!(fun b=>n==n_6&&b) ((fun b=>(fun b=>n_1==n_7&&b) ((fun b=>n_2==n_8&&b) ((fun b=>n_3==n_9&&b) true))&&b) ((fun b=>n_4==n_10&&b) ((fun b=>n_5==n_11&&b) true)))) (R (bv false)) (J (St.mk (mkT [(2,V.ptr (Id.p 0) 0 0),(3,V.ptr (Id.p 1) 0 0),(5,iv (IntKind.i64.wrap ((↑i:Int)+(1:Int))))]) (Hp.mk [(0,O.rows 1 false [[V.lst 6 (bkl a)]]),(1,O.rows 1 false [[V.lst 6 (bkl b)]])] 2 [])))) (R (bv true))) (by kernel_rfl) ?_
 rw [bkl_length]
 refine ifB_mk (fun d=>?_) (fun d=>?_)
 ·have hi:i<a.length:=by have:=of_decide_eq_true d; omega
  obtain ⟨x,hx⟩:=getI hi
  obtain ⟨y,hy⟩:=getI (l:=b) (k:=i) (by omega)
  refine bel hx (bel hy (ifB_mk (fun e=>rf h (fun q=>?_)) (fun e=>?_)))
  ·subst q; rw [hx] at hy; cases hy; simp at e
  ·have exy:x=y:=by
    obtain ⟨x1,⟨x2,x3,x4⟩,x5,x6⟩:=x
    obtain ⟨y1,⟨y2,y3,y4⟩,y5,y6⟩:=y
    simp at e
    obtain ⟨e1,⟨e2,e3,e4⟩,e5,e6⟩:=e
    subst e1 e2 e3 e4 e5 e6
    rfl
   subst exy
   rw [wr1i hi (by omega)]
   exact hJ (i+1) ⟨hi,take_eq g2 hx hy⟩ (by omega)
 ·have hi:a.length≤i:=by have:=of_decide_eq_false d; omega
  rw [List.take_of_length_le hi,List.take_of_length_le (by omega)] at g2
  exact rt h g2
theorem overlaps5 {l:List Kd} {m:List Bk} {R:V→Prop} (hl : ∀ q∈l,KdR q) (hll:(l.length:Int)≤1000000) (hml:m.length≤1000000) (hr : ∀ b∈m,BkR b) (h1 : ∀ e,askM l m e→e≠0→R (.tup [nilS,iv e])) (h2:AskM l m → ∀ s,(s=2∨ovl (bods l m) (bods l m).length=[])→R (.tup [.lst s (prl (ovl (bods l m) (bods l m).length)),iv 0])):K0G Tryd.prog glX 5 [.lst 3 (kdl l),.agg [.lst 6 (bkl m)]] R:=by
 refine K0_by hmX hcQA 3000 Tryd.func5 (p:=K0G Tryd.prog glX 15 [V.lst 3 (kdl l),V.agg [V.lst 6 (bkl m)]] fun v=>onTup v fun vs=>onCons vs fun u r=>onLst u fun s es=>onCons r fun u r=>onIntK IntKind.i64 u fun n=>onNil r (ifB (n != (0:Int)) (R (V.tup [nilS,iv n])) (K0G Tryd.prog glX 16 [V.lst s es] fun v=>onLst v fun s es=>R (V.tup [V.lst s es,iv (0:Int)])))) (by kernel_rfl) ?_
 refine bodies105 hl hll hml hr (fun e he hne=>onTup_tup (onCons_cons (onLst_nil (onCons_cons (onIntK_iv (onNil_nil (ifB_t (by simpa using hne) (h1 e he hne)))))))) (fun hA=>onTup_tup (onCons_cons (onLst_lst (onCons_cons (onIntK_iv (onNil_nil (ifB_f rfl ?_)))))))
 obtain ⟨a1,a2,a3⟩:=bods_ok hl hr hA
 refine over106 a1 a2 a3 ?_
 cases ho:ovl (bods l m) (bods l m).length with
 | nil =>
  unfold ovlV
  rw [ho]
  have:=h2 hA 0 (.inr ho)
  rw [ho] at this
  exact onLst_nil this
 | cons p ps =>
  unfold ovlV
  rw [ho]
  have:=h2 hA 2 (.inl rfl)
  rw [ho] at this
  exact onLst_lst this
theorem overlaps6 {l:List Kd} {m:List Bk} {R:V→Prop} (hl : ∀ q∈l,KdR q) (hll:(l.length:Int)≤1000000) (hml:m.length≤1000000) (hr : ∀ b∈m,BkR b) (h1 : ∀ e,askM l m e→e≠0→R (.tup [nilS,iv e])) (h2:AskM l m → ∀ s,(s=2∨ovl (bods l m) (bods l m).length=[])→R (.tup [.lst s (prl (ovl (bods l m) (bods l m).length)),iv 0])):K0G Tryd.prog glX 6 [.lst 3 (kdl l),.agg [.lst 6 (bkl m)]] R:=by
 refine K0_by hmX hcQA 3000 Tryd.func6 (p:=K0G Tryd.prog glX 17 [V.lst 3 (kdl l),V.agg [V.lst 6 (bkl m)]] fun v=>onIntK IntKind.i64 v fun n=>ifB (n != (0:Int)) (R (V.tup [nilS,iv n])) (K0G Tryd.prog glX 18 [V.lst 3 (kdl l),V.agg [V.lst 6 (bkl m)]] fun v=>onLst v fun s es=>R (V.tup [V.lst s es,iv (0:Int)]))) (by kernel_rfl) ?_
 refine bricks114 hl hll hml (fun e he=>onIntK_iv (ifB_mk (fun c=>h1 e he (by simpa using c)) (fun c=>?_)))
 have e0:e=0:=by simpa using c
 subst e0
 have hA:AskM l m:=by
  rcases he with ⟨_,h⟩ | ⟨_,_,h⟩ | ⟨_,_,h⟩ | ⟨_,_,_,h⟩ | ⟨h,_⟩
  ·omega
  ·omega
  ·omega
  ·omega
  ·exact h
 refine overl115 hl hr hA ?_
 cases ho:ovl (bods l m) (bods l m).length with
 | nil =>
  unfold ovlV
  rw [ho]
  have:=h2 hA 0 (.inr ho)
  rw [ho] at this
  exact onLst_nil this
 | cons p ps =>
  unfold ovlV
  rw [ho]
  have:=h2 hA 2 (.inl rfl)
  rw [ho] at this
  exact onLst_lst this
def spn (s:Sp) (c:Cl):Sp:=((if c.1<s.1.1 then c.1 else s.1.1,if c.2.1<s.1.2.1 then c.2.1 else s.1.2.1,if c.2.2<s.1.2.2 then c.2.2 else s.1.2.2),(if c.1 > s.2.1 then c.1 else s.2.1,if c.2.1 > s.2.2.1 then c.2.1 else s.2.2.1,if c.2.2 > s.2.2.2 then c.2.2 else s.2.2.2))
def cz:Cl:=(0,0,0)
def spanP (p:List Cl):Sp:=p.foldl spn (p.headD cz,p.headD cz)
def cellsB (l:List Bdy):List Cl:=l.flatMap (·.1)
theorem cellsB_succ {l:List Bdy} {i:Nat} {b:Bdy} (h:l[i]? = some b):cellsB (l.take (i+1))=cellsB (l.take i)++b.1:=by
 unfold cellsB
 rw [take_succ' h,List.flatMap_append]
 simp
theorem spanP_succ {p:List Cl} {c:Cl} (h:p≠[]):spanP (p++[c])=spn (spanP p) c:=by
 cases p with
 | nil=>exact (h rfl).elim
 | cons x p=>unfold spanP; rw [List.foldl_append]; rfl
theorem bel2 {l:List Bdy} {i:Nat} {b:Bdy} {k:Nat→List (List V)→Nat→List (List V)→Prop} (h:l[i]? = some b) (hk:k 3 (cll b.1) 5 (knl b.2)):onSome (bdl l)[i]? fun row=>onCons (List.drop 0 row) fun u r=>onLst u fun s_1 es=>onCons r fun u r=>onLst u fun s_2 es_1=>k s_1 es s_2 es_1:=onSome_mk (x:=bdr b) (by simp [bdl,h]) hk
set_option maxHeartbeats 1000000 in
theorem bounds10 {l:List Kd} {m:List Bk} {R:V→Prop} (hl : ∀ q∈l,KdR q) (hll:(l.length:Int)≤1000000) (hml:m.length≤1000000) (hr : ∀ b∈m,BkR b) (h1 : ∀ e,errM l m e→e≠0→R (.tup [.agg (spr ((0,0,0),0,0,0)),iv e])) (h2:OkM l m→R (.tup [.agg (spr (spanP (cellsB (bods l m)))),iv 0])):K0G Tryd.prog glX 10 [.lst 3 (kdl l),.agg [.lst 6 (bkl m)]] R:=by
 refine K0_by hmX hcQA 3000 Tryd.func10 (p:=K0G Tryd.prog glX 19 [V.lst 3 (kdl l),V.agg [V.lst 6 (bkl m)]] fun v=>onTup v fun vs=>onCons vs fun u r=>onLst u fun s es=>onCons r fun u r=>onIntK IntKind.i64 u fun n=>onNil r (ifB (n != (0:Int)) (R (V.tup [V.agg [iv (0:Int),iv (0:Int),iv (0:Int),iv (0:Int),iv (0:Int),iv (0:Int)],iv n])) (ifB ((↑es.length:Int)==(0:Int)) (R (V.tup [V.agg [iv (0:Int),iv (0:Int),iv (0:Int),iv (0:Int),iv (0:Int),iv (0:Int)],iv n])) (need (s=2) (onSome es[0]? fun row=>onSome row[0]? fun v=>onLst v fun s_1 es_1=>need (s_1=3) (onSome es_1[0]? fun row=>onCons (List.drop 0 row) fun u r=>onIntK IntKind.i64 u fun n=>onCons r fun u r=>onIntK IntKind.i64 u fun n_1=>onCons r fun u r=>onIntK IntKind.i64 u fun n_2=>La 0 [(4:Tmp),(9:Tmp),(38:Tmp),(39:Tmp),(40:Tmp)] (WY Tryd.prog cfQA 2991 (Env.mk (Bs.mk 0 []) 0 none 94 10 0) (cdAt [1,1,1,1,1,0,1,0,0] (bodyOf Tryd.f10))) (Qblk 0 (Qthen (WY Tryd.prog cfQA 2994 (Env.mk (Bs.mk 0 []) 0 none 94 10 0) (cdAt [1,1,1,1,1,1] (bodyOf Tryd.f10)) (QendX Tryd.prog Tryd.f10 fun v h=>R (frzW h v))) (QendX Tryd.prog Tryd.f10 fun v h=>R (frzW h v)))) (St.mk (mkT [(4,V.ptr (Id.p 0) 0 0),(9,V.ptr (Id.p 1) 0 0),(38,V.lst s es),(39,iv (↑es.length:Int)),(40,iv (0:Int))]) (Hp.mk [(0,O.rows 6 false [[iv (0:Int),iv (0:Int),iv (0:Int),iv (0:Int),iv (0:Int),iv (0:Int)]]),(1,O.rows 6 false [[iv n,iv n_1,iv n_2,iv n,iv n_1,iv n_2]])] 2 [])))))))) (by kernel_rfl) ?_
 refine valid64 hl hll hml hr (fun e he hne=>⟨onTup_tup (onCons_cons (onLst_nil (onCons_cons (onIntK_iv (onNil_nil (ifB_t (by simpa using hne) (h1 e he hne))))))),onTup_tup (onCons_cons (onLst_lst (onCons_cons (onIntK_iv (onNil_nil (ifB_t (by simpa using hne) (h1 e he hne)))))))⟩) (fun hA=>onTup_tup (onCons_cons (onLst_lst (onCons_cons (onIntK_iv (onNil_nil (ifB_f rfl ?_)))))))
 have h2:=h2 hA
 obtain ⟨a1,a2,a3⟩:=bods_ok hl hr hA.ask
 have ne : ∀ b∈bods l m,b.1≠[]:=fun b hb=>by
  obtain ⟨c,hc,rfl⟩:=List.mem_map.1 hb
  obtain ⟨hP,_,_,hK⟩:=putK hA.ask.kinds hl (hA.ask.all c hc) (hr c hc)
  intro e
  have e2:(plc (kOf l c) c.2.2.1.toNat c.2.1).length=0:=by
   have:(bod l c).1=plc (kOf l c) c.2.2.1.toNat c.2.1:=rfl
   rw [← this,e]; rfl
  rw [plc_length] at e2
  have:=hK.1.1.1
  omega
 obtain ⟨L,hL⟩ : ∃ L,L=bods l m:=⟨_,rfl⟩
 rw [← hL] at h2 ne a1 a2 ⊢
 have hbl:(bdl L).length=L.length:=by simp [bdl]
 rw [hbl]
 refine ifB_mk (fun c=>?_) (fun c=>?_)
 ·have:L=[]:=List.eq_nil_of_length_eq_zero (by simpa using c)
  rw [this] at h2
  exact h2
 obtain ⟨b0,hb0⟩:=getI (l:=L) (k:=0) (Nat.pos_of_ne_zero (fun e=>by rw [e] at c; simp at c))
 obtain ⟨c0,hc0⟩:=getI (l:=b0.1) (k:=0) (List.length_pos_iff.2 (ne b0 (mem_at hb0)))
 refine need_mk ⟨rfl,onSome_mk (x:=bdr b0) (by simp [bdl,hb0]) (onSome_mk (x:=V.lst 3 (cll b0.1)) rfl (onLst_lst (need_mk ⟨rfl,cel hc0 ?_⟩)))⟩
 have hd:(cellsB L).headD cz=c0:=by
  cases L with
  | nil=>simp at hb0
  | cons x L =>
   simp at hb0
   subst hb0
   unfold cellsB
   rw [List.flatMap_cons]
   cases hx:x.1 with
   | nil=>rw [hx] at hc0; simp at hc0
   | cons y ys=>rw [hx] at hc0; simp at hc0; subst hc0; rfl
 obtain ⟨n,hn⟩ : ∃ n,n=L.length:=⟨_,rfl⟩
 rw [← hn]
 refine La.of (σ:=Nat×Sp) (fun z=>sh10a L z.2 n z.1) (fun z=>z.1≤n∧z.2=(cellsB (L.take z.1)).foldl spn (c0,c0)) (fun z=>n - z.1) (0,(c0,c0)) (by kernel_rfl) ⟨by simp only; omega,rfl⟩ ?_
 rintro ⟨i,s⟩ ⟨g1,g2⟩ J hJ
 simp only at g1 g2
 refine see (p:=ifB (decide ((↑i:Int)<(↑n:Int))) (onSome (bdl L)[i]? fun row=>onCons (List.drop 0 row) fun u r=>onLst u fun s_1 es=>onCons r fun u r=>onLst u fun s_2 es_1=>La 0 [(4:Tmp),(9:Tmp),(38:Tmp),(39:Tmp),(40:Tmp),(45:Tmp),(46:Tmp),(47:Tmp)] (WY Tryd.prog cfQA 2983 (Env.mk (Bs.mk 0 []) 0 none 94 10 2) (cdAt [1,1,1,1,1,0,1,0,0,1,1,0,0,1,1,0,0] (bodyOf Tryd.f10))) (Qblk 2 (Qblk 1 (Qthen (WY Tryd.prog cfQA 2988 (Env.mk (Bs.mk 0 []) 0 none 94 10 0) (cdAt [1,1,1,1,1,0,1,0,0,1,1,1] (bodyOf Tryd.f10)) (Qla 0 [(4:Tmp),(9:Tmp),(38:Tmp),(39:Tmp),(40:Tmp)] J (Qblk 0 (Qthen (WY Tryd.prog cfQA 2994 (Env.mk (Bs.mk 0 []) 0 none 94 10 0) (cdAt [1,1,1,1,1,1] (bodyOf Tryd.f10)) (QendX Tryd.prog Tryd.f10 fun v h=>R (frzW h v))) (QendX Tryd.prog Tryd.f10 fun v h=>R (frzW h v)))))) (Qla 0 [(4:Tmp),(9:Tmp),(38:Tmp),(39:Tmp),(40:Tmp)] J (Qblk 0 (Qthen (WY Tryd.prog cfQA 2994 (Env.mk (Bs.mk 0 []) 0 none 94 10 0) (cdAt [1,1,1,1,1,1] (bodyOf Tryd.f10)) (QendX Tryd.prog Tryd.f10 fun v h=>R (frzW h v))) (QendX Tryd.prog Tryd.f10 fun v h=>R (frzW h v)))))))) (St.mk (mkT [(4,V.ptr (Id.p 0) 0 0),(9,V.ptr (Id.p 1) 0 0),(38,V.lst 2 (bdl L)),(39,iv (↑n:Int)),(40,iv (↑i:Int)),(45,V.lst s_1 es),(46,iv (↑es.length:Int)),(47,iv (0:Int))]) (Hp.mk [(0,O.rows 6 false [[iv (0:Int),iv (0:Int),iv (0:Int),iv (0:Int),iv (0:Int),iv (0:Int)]]),(1,O.rows 6 false [[iv s.1.1,iv s.1.2.1,iv s.1.2.2,iv s.2.1,iv s.2.2.1,iv s.2.2.2]])] 2 []))) (R (V.tup [V.agg [iv s.1.1,iv s.1.2.1,iv s.1.2.2,iv s.2.1,iv s.2.2.1,iv s.2.2.2],iv (0:Int)]))) (by kernel_rfl) ?_
 refine ifB_mk (fun d=>?_) (fun d=>?_)
 ·have hi:i<n:=by have:=of_decide_eq_true d; omega
  obtain ⟨b,hb⟩:=getI (l:=L) (k:=i) (by omega)
  have hb30:=a2 b (mem_at hb)
  refine bel2 hb ?_
  rw [cll_length]
  obtain ⟨c,hc⟩ : ∃ c,c=b.1:=⟨_,rfl⟩
  rw [← hc]
  obtain ⟨e,he⟩ : ∃ e,e=c.length:=⟨_,rfl⟩
  rw [← he]
  refine La.of (σ:=Nat×Sp) (fun z=>sh10b L z.2 n i c e z.1) (fun z=>z.1≤e∧z.2=(cellsB (L.take i)++c.take z.1).foldl spn (c0,c0)) (fun z=>e - z.1) (0,s) (by kernel_rfl) ⟨by simp only; omega,by simp only; rw [g2]; simp⟩ ?_
  clear g2
  rintro ⟨k,s⟩ ⟨k1,g2⟩ I hI
  simp only at k1 g2
  refine see (p:=ifB (decide ((↑k:Int)<(↑e:Int))) (onSome (cll c)[k]? fun row=>onCons (List.drop 0 row) fun u r=>onIntK IntKind.i64 u fun n_1=>onCons r fun u r=>onIntK IntKind.i64 u fun n_2=>onCons r fun u r=>onIntK IntKind.i64 u fun n_3=>I (St.mk (mkT [(4,V.ptr (Id.p 0) 0 0),(9,V.ptr (Id.p 1) 0 0),(38,V.lst 2 (bdl L)),(39,iv (↑n:Int)),(40,iv (↑i:Int)),(45,V.lst 3 (cll c)),(46,iv (↑e:Int)),(47,iv (IntKind.i64.wrap ((↑k:Int)+(1:Int))))]) (Hp.mk [(0,O.rows 6 false [[iv (0:Int),iv (0:Int),iv (0:Int),iv (0:Int),iv (0:Int),iv (0:Int)]]),(1,O.rows 6 false [[iv (if n_1<s.1.1 then n_1 else s.1.1),iv (if n_2<s.1.2.1 then n_2 else s.1.2.1),iv (if n_3<s.1.2.2 then n_3 else s.1.2.2),iv (if n_1 > s.2.1 then n_1 else s.2.1),iv (if n_2 > s.2.2.1 then n_2 else s.2.2.1),iv (if n_3 > s.2.2.2 then n_3 else s.2.2.2)]])] 2 []))) (J (St.mk (mkT [(4,V.ptr (Id.p 0) 0 0),(9,V.ptr (Id.p 1) 0 0),(38,V.lst 2 (bdl L)),(39,iv (↑n:Int)),(40,iv (IntKind.i64.wrap ((↑i:Int)+(1:Int))))]) (Hp.mk [(0,O.rows 6 false [[iv (0:Int),iv (0:Int),iv (0:Int),iv (0:Int),iv (0:Int),iv (0:Int)]]),(1,O.rows 6 false [[iv s.1.1,iv s.1.2.1,iv s.1.2.2,iv s.2.1,iv s.2.2.1,iv s.2.2.2]])] 2 [])))) (by kernel_rfl) ?_
  refine ifB_mk (fun f=>?_) (fun f=>?_)
  ·have hk:k<e:=by have:=of_decide_eq_true f; omega
   obtain ⟨y,hy⟩:=getI (l:=c) (k:=k) (by omega)
   refine cel hy ?_
   rw [wr1i hk (by have:=hc ▸ hb30; omega)]
   exact hI (k+1,spn s y) ⟨hk,by simp only; rw [take_succ' hy,← List.append_assoc,List.foldl_append,← g2]; rfl⟩ (by simp only; omega)
  ·have hk:e≤k:=by have:=of_decide_eq_false f; omega
   rw [wr1i hi (by omega)]
   exact hJ (i+1,s) ⟨hi,by simp only; rw [g2,List.take_of_length_le (l:=c) (by omega),cellsB_succ hb,hc]⟩ (by simp only; omega)
 ·have hi:n≤i:=by have:=of_decide_eq_false d; omega
  rw [List.take_of_length_le (by omega)] at g2
  have:s=spanP (cellsB L):=by unfold spanP; rw [hd]; exact g2
  rw [← this] at h2
  exact h2
theorem ext0 {l:List Cl} {i:Nat} {c:Cl} {k:Int→Prop} (h:l[i]? = some c) (hk:k c.1):onSome (cll l)[i]? fun row=>onSome row[0]? fun v=>onIntK IntKind.i64 v fun n=>k n:=onSome_mk (x:=clr c) (by simp [cll,h]) hk
theorem ext1 {l:List Cl} {i:Nat} {c:Cl} {k:Int→Prop} (h:l[i]? = some c) (hk:k c.2.1):onSome (cll l)[i]? fun row=>onSome row[1]? fun v=>onIntK IntKind.i64 v fun n=>k n:=onSome_mk (x:=clr c) (by simp [cll,h]) hk
theorem ext2 {l:List Cl} {i:Nat} {c:Cl} {k:Int→Prop} (h:l[i]? = some c) (hk:k c.2.2):onSome (cll l)[i]? fun row=>onSome row[2]? fun v=>onIntK IntKind.i64 v fun n=>k n:=onSome_mk (x:=clr c) (by simp [cll,h]) hk
set_option maxHeartbeats 1000000 in
theorem bounds11 {l:List Kd} {m:List Bk} {R:V→Prop} (hl : ∀ q∈l,KdR q) (hll:(l.length:Int)≤1000000) (hml:m.length≤1000000) (hr : ∀ b∈m,BkR b) (h1 : ∀ e,errM l m e→e≠0→R (.tup [.agg (spr ((0,0,0),0,0,0)),iv e])) (h2:OkM l m→R (.tup [.agg (spr (spanP (cellsB (bods l m)))),iv 0])):K0G Tryd.prog glX 11 [.lst 3 (kdl l),.agg [.lst 6 (bkl m)]] R:=by
 refine K0_by hmX hcQA 3000 Tryd.func11 (p:=K0G Tryd.prog glX 9 [V.lst 3 (kdl l),V.agg [V.lst 6 (bkl m)]] fun v=>onIntK IntKind.i64 v fun n=>ifB (n != (0:Int)) (R (V.tup [V.agg [iv (0:Int),iv (0:Int),iv (0:Int),iv (0:Int),iv (0:Int),iv (0:Int)],iv n])) (La 0 [(0:Tmp),(3:Tmp),(4:Tmp),(7:Tmp),(8:Tmp)] (WY Tryd.prog cfQA 2993 (Env.mk (Bs.mk 0 []) 0 none 112 11 0) (cdAt [1,1,1,0,1,0,0] (bodyOf Tryd.f11))) (Qblk 0 (Qthen (WY Tryd.prog cfQA 2996 (Env.mk (Bs.mk 0 []) 0 none 112 11 0) (cdAt [1,1,1,1] (bodyOf Tryd.f11)) (QendX Tryd.prog Tryd.f11 fun v h=>R (frzW h v))) (QendX Tryd.prog Tryd.f11 fun v h=>R (frzW h v)))) (St.mk (mkT [(0,V.lst 3 (kdl l)),(3,V.ptr (Id.p 0) 0 0),(4,V.ptr (Id.p 1) 0 0),(7,V.ptr (Id.p 2) 0 0),(8,iv (0:Int))]) (Hp.mk [(0,O.rows 1 false [[V.lst 6 (bkl m)]]),(1,O.rows 6 false [[iv (0:Int),iv (0:Int),iv (0:Int),iv (0:Int),iv (0:Int),iv (0:Int)]]),(2,O.rows 6 false [[iv (0:Int),iv (0:Int),iv (0:Int),iv (0:Int),iv (0:Int),iv (0:Int)]])] 3 [])))) (by kernel_rfl) ?_
 refine check66 hl hll hml hr (fun e he hne=>onIntK_iv (ifB_t (by simpa using hne) (h1 e he hne))) (fun hA=>onIntK_iv (ifB_f rfl ?_))
 have h2:=h2 hA
 obtain ⟨n,hn⟩ : ∃ n,n=m.length:=⟨_,rfl⟩
 have hn40:=hA.ask.few
 refine La.of (σ:=Nat×Sp) (fun z=>sh11a l m z.2 z.1) (fun z=>z.1≤n∧z.2=spanP (cellsB ((bods l m).take z.1))∧(cellsB ((bods l m).take z.1)=[]↔z.1=0)) (fun z=>n - z.1) (0,((0,0,0),0,0,0)) (by kernel_rfl) ⟨by simp only; omega,rfl,by simp [cellsB]⟩ ?_
 rintro ⟨i,s⟩ ⟨g1,g2,g3⟩ J hJ
 simp only at g1 g2 g3
 refine see (p:=ifB (decide ((↑i:Int)<(↑(bkl m).length:Int))) (onSome (bkl m)[i]? fun row=>onCons (List.drop 0 row) fun u r=>onIntK IntKind.i64 u fun n=>onCons r fun u r=>onIntK IntKind.i64 u fun n_1=>onCons r fun u r=>onIntK IntKind.i64 u fun n_2=>onCons r fun u r=>onIntK IntKind.i64 u fun n_3=>onCons r fun u r=>onIntK IntKind.u8 u fun n_4=>onCons r fun u r=>onIntK IntKind.u8 u fun n_5=>K0G Tryd.prog glX 20 [V.lst 3 (kdl l),V.agg [iv n,iv n_1,iv n_2,iv n_3,V.raw (Value.int IntKind.u8 n_4),V.raw (Value.int IntKind.u8 n_5)]] fun v=>onLst v fun s_1 es=>La 0 [(0:Tmp),(3:Tmp),(4:Tmp),(7:Tmp),(8:Tmp),(9:Tmp),(10:Tmp)] (WY Tryd.prog cfQA 2986 (Env.mk (Bs.mk 0 []) 0 none 112 11 2) (cdAt [1,1,1,0,1,0,0,1,0,0,1,1,0,0] (bodyOf Tryd.f11))) (Qblk 2 (Qblk 1 (Qthen (WY Tryd.prog cfQA 2991 (Env.mk (Bs.mk 0 []) 0 none 112 11 0) (cdAt [1,1,1,0,1,0,0,1,1] (bodyOf Tryd.f11)) (Qla 0 [(0:Tmp),(3:Tmp),(4:Tmp),(7:Tmp),(8:Tmp)] J (Qblk 0 (Qthen (WY Tryd.prog cfQA 2996 (Env.mk (Bs.mk 0 []) 0 none 112 11 0) (cdAt [1,1,1,1] (bodyOf Tryd.f11)) (QendX Tryd.prog Tryd.f11 fun v h=>R (frzW h v))) (QendX Tryd.prog Tryd.f11 fun v h=>R (frzW h v)))))) (Qla 0 [(0:Tmp),(3:Tmp),(4:Tmp),(7:Tmp),(8:Tmp)] J (Qblk 0 (Qthen (WY Tryd.prog cfQA 2996 (Env.mk (Bs.mk 0 []) 0 none 112 11 0) (cdAt [1,1,1,1] (bodyOf Tryd.f11)) (QendX Tryd.prog Tryd.f11 fun v h=>R (frzW h v))) (QendX Tryd.prog Tryd.f11 fun v h=>R (frzW h v)))))))) (St.mk (mkT [(0,V.lst 3 (kdl l)),(3,V.ptr (Id.p 0) 0 0),(4,V.ptr (Id.p 1) 0 0),(7,V.ptr (Id.p 2) 0 0),(8,iv (↑i:Int)),(9,V.lst s_1 es),(10,iv (0:Int))]) (Hp.mk [(0,O.rows 1 false [[V.lst 6 (bkl m)]]),(1,O.rows 6 false [[iv (0:Int),iv (0:Int),iv (0:Int),iv (0:Int),iv (0:Int),iv (0:Int)]]),(2,O.rows 6 false [[iv s.1.1,iv s.1.2.1,iv s.1.2.2,iv s.2.1,iv s.2.2.1,iv s.2.2.2]])] 3 []))) (R (V.tup [V.agg [iv s.1.1,iv s.1.2.1,iv s.1.2.2,iv s.2.1,iv s.2.2.1,iv s.2.2.2],iv (0:Int)]))) (by kernel_rfl) ?_
 rw [bkl_length,← hn]
 refine ifB_mk (fun d=>?_) (fun d=>?_)
 ·have hi:i<n:=by have:=of_decide_eq_true d; omega
  obtain ⟨b,hb⟩:=getI (l:=m) (k:=i) (by omega)
  have hbm:=mem_at hb
  obtain ⟨hP,_,_,hK⟩:=putK hA.ask.kinds hl (hA.ask.all b hbm) (hr b hbm)
  have hbb:(bods l m)[i]? = some (bod l b):=by unfold bods; rw [List.getElem?_map,hb]; rfl
  have hlen:(bod l b).1.length=(kOf l b).1.length:=plc_length ..
  have h24:=hK.1.1
  refine bel hb (placed59 (b:=b) hP (onLst_lst ?_))
  obtain ⟨c,hc⟩ : ∃ c,c=(bod l b).1:=⟨_,rfl⟩
  rw [show plc (kOf l b) b.2.2.1.toNat b.2.1=c from hc.symm]
  have hc24:c.length≤24:=by rw [hc,hlen]; exact h24.2
  refine La.of (σ:=Nat×Sp) (fun z=>sh11b l m z.2 i c z.1) (fun z=>z.1≤c.length∧z.2=spanP (cellsB ((bods l m).take i)++c.take z.1)) (fun z=>c.length - z.1) (0,s) (by kernel_rfl) ⟨by simp only; omega,by simp only; rw [g2]; simp⟩ ?_
  clear g2
  rintro ⟨k,s⟩ ⟨k1,g2⟩ I hI
  simp only at k1 g2
  refine see (p:=ifB (decide ((↑k:Int)<(↑(cll c).length:Int))) (ifB ((↑i:Int)==(0:Int)) (ifB ((↑k:Int)==(0:Int)) (onSome (cll c)[k]? fun row=>onCons (List.drop 0 row) fun u r=>onIntK IntKind.i64 u fun n=>onCons r fun u r=>onIntK IntKind.i64 u fun n_1=>onCons r fun u r=>onIntK IntKind.i64 u fun n_2=>onSome (cll c)[k]? fun row=>onCons (List.drop 0 row) fun u r=>onIntK IntKind.i64 u fun n_3=>onCons r fun u r=>onIntK IntKind.i64 u fun n_4=>onCons r fun u r=>onIntK IntKind.i64 u fun n_5=>onSome (cll c)[k]? fun row=>onSome row[0]? fun v=>onIntK IntKind.i64 v fun n_6=>onSome (cll c)[k]? fun row=>onSome row[1]? fun v=>onIntK IntKind.i64 v fun n_7=>onSome (cll c)[k]? fun row=>onSome row[2]? fun v=>onIntK IntKind.i64 v fun n_8=>onSome (cll c)[k]? fun row=>onSome row[0]? fun v=>onIntK IntKind.i64 v fun n_9=>onSome (cll c)[k]? fun row=>onSome row[1]? fun v=>onIntK IntKind.i64 v fun n_10=>onSome (cll c)[k]? fun row=>onSome row[2]? fun v=>onIntK IntKind.i64 v fun n_11=>I (St.mk (mkT [(0,V.lst 3 (kdl l)),(3,V.ptr (Id.p 0) 0 0),(4,V.ptr (Id.p 1) 0 0),(7,V.ptr (Id.p 2) 0 0),(8,iv (↑i:Int)),(9,V.lst 3 (cll c)),(10,iv (IntKind.i64.wrap ((↑k:Int)+(1:Int))))]) (Hp.mk [(0,O.rows 1 false [[V.lst 6 (bkl m)]]),(1,O.rows 6 false [[iv (0:Int),iv (0:Int),iv (0:Int),iv (0:Int),iv (0:Int),iv (0:Int)]]),(2,O.rows 6 false [[iv (if n_6<n then n_6 else n),iv (if n_7<n_1 then n_7 else n_1),iv (if n_8<n_2 then n_8 else n_2),iv (if n_9 > n_3 then n_9 else n_3),iv (if n_10 > n_4 then n_10 else n_4),iv (if n_11 > n_5 then n_11 else n_5)]])] 3 []))) (onSome (cll c)[k]? fun row=>onSome row[0]? fun v=>onIntK IntKind.i64 v fun n=>onSome (cll c)[k]? fun row=>onSome row[1]? fun v=>onIntK IntKind.i64 v fun n_1=>onSome (cll c)[k]? fun row=>onSome row[2]? fun v=>onIntK IntKind.i64 v fun n_2=>onSome (cll c)[k]? fun row=>onSome row[0]? fun v=>onIntK IntKind.i64 v fun n_3=>onSome (cll c)[k]? fun row=>onSome row[1]? fun v=>onIntK IntKind.i64 v fun n_4=>onSome (cll c)[k]? fun row=>onSome row[2]? fun v=>onIntK IntKind.i64 v fun n_5=>I (St.mk (mkT [(0,V.lst 3 (kdl l)),(3,V.ptr (Id.p 0) 0 0),(4,V.ptr (Id.p 1) 0 0),(7,V.ptr (Id.p 2) 0 0),(8,iv (↑i:Int)),(9,V.lst 3 (cll c)),(10,iv (IntKind.i64.wrap ((↑k:Int)+(1:Int))))]) (Hp.mk [(0,O.rows 1 false [[V.lst 6 (bkl m)]]),(1,O.rows 6 false [[iv (0:Int),iv (0:Int),iv (0:Int),iv (0:Int),iv (0:Int),iv (0:Int)]]),(2,O.rows 6 false [[iv (if n<s.1.1 then n else s.1.1),iv (if n_1<s.1.2.1 then n_1 else s.1.2.1),iv (if n_2<s.1.2.2 then n_2 else s.1.2.2),iv (if n_3 > s.2.1 then n_3 else s.2.1),iv (if n_4 > s.2.2.1 then n_4 else s.2.2.1),iv (if n_5 > s.2.2.2 then n_5 else s.2.2.2)]])] 3 [])))) (onSome (cll c)[k]? fun row=>onSome row[0]? fun v=>onIntK IntKind.i64 v fun n=>onSome (cll c)[k]? fun row=>onSome row[1]? fun v=>onIntK IntKind.i64 v fun n_1=>onSome (cll c)[k]? fun row=>onSome row[2]? fun v=>onIntK IntKind.i64 v fun n_2=>onSome (cll c)[k]? fun row=>onSome row[0]? fun v=>onIntK IntKind.i64 v fun n_3=>onSome (cll c)[k]? fun row=>onSome row[1]? fun v=>onIntK IntKind.i64 v fun n_4=>onSome (cll c)[k]? fun row=>onSome row[2]? fun v=>onIntK IntKind.i64 v fun n_5=>I (St.mk (mkT [(0,V.lst 3 (kdl l)),(3,V.ptr (Id.p 0) 0 0),(4,V.ptr (Id.p 1) 0 0),(7,V.ptr (Id.p 2) 0 0),(8,iv (↑i:Int)),(9,V.lst 3 (cll c)),(10,iv (IntKind.i64.wrap ((↑k:Int)+(1:Int))))]) (Hp.mk [(0,O.rows 1 false [[V.lst 6 (bkl m)]]),(1,O.rows 6 false [[iv (0:Int),iv (0:Int),iv (0:Int),iv (0:Int),iv (0:Int),iv (0:Int)]]),(2,O.rows 6 false [[iv (if n<s.1.1 then n else s.1.1),iv (if n_1<s.1.2.1 then n_1 else s.1.2.1),iv (if n_2<s.1.2.2 then n_2 else s.1.2.2),iv (if n_3 > s.2.1 then n_3 else s.2.1),iv (if n_4 > s.2.2.1 then n_4 else s.2.2.1),iv (if n_5 > s.2.2.2 then n_5 else s.2.2.2)]])] 3 [])))) (J (St.mk (mkT [(0,V.lst 3 (kdl l)),(3,V.ptr (Id.p 0) 0 0),(4,V.ptr (Id.p 1) 0 0),(7,V.ptr (Id.p 2) 0 0),(8,iv (IntKind.i64.wrap ((↑i:Int)+(1:Int))))]) (Hp.mk [(0,O.rows 1 false [[V.lst 6 (bkl m)]]),(1,O.rows 6 false [[iv (0:Int),iv (0:Int),iv (0:Int),iv (0:Int),iv (0:Int),iv (0:Int)]]),(2,O.rows 6 false [[iv s.1.1,iv s.1.2.1,iv s.1.2.2,iv s.2.1,iv s.2.2.1,iv s.2.2.2]])] 3 [])))) (by kernel_rfl) ?_
  rw [cll_length]
  refine ifB_mk (fun f=>?_) (fun f=>?_)
  ·have hk:k<c.length:=by have:=of_decide_eq_true f; omega
   obtain ⟨y,hy⟩:=getI (l:=c) (k:=k) hk
   have step:(i=0→k=0→False)→spn s y=spanP (cellsB ((bods l m).take i)++c.take (k+1)):=fun hne=>by
    rw [take_succ' hy,← List.append_assoc,spanP_succ,g2]
    intro e
    obtain ⟨e1,e2⟩:=List.append_eq_nil_iff.1 e
    have:=g3.1 e1
    have e3:k=0:=by
     rcases List.take_eq_nil_iff.1 e2 with h | h
     ·exact h
     ·rw [h] at hk; simp at hk
    exact hne this e3
   refine ifB_mk (fun p=>ifB_mk (fun p2=>?_) (fun p2=>?_)) (fun p=>?_)
   ·have i0:i=0:=by simpa using p
    have k0:k=0:=by simpa using p2
    have:spn (y,y) y=spanP (cellsB ((bods l m).take i)++c.take (k+1)):=by
     rw [take_succ' hy,g3.2 i0,k0]
     rfl
    refine cel hy (cel hy (ext0 hy (ext1 hy (ext2 hy (ext0 hy (ext1 hy (ext2 hy ?_)))))))
    rw [wr1i hk (by omega)]
    exact hI (k+1,spn (y,y) y) ⟨hk,this⟩ (by simp only; omega)
   ·refine ext0 hy (ext1 hy (ext2 hy (ext0 hy (ext1 hy (ext2 hy ?_)))))
    rw [wr1i hk (by omega)]
    exact hI (k+1,spn s y) ⟨hk,step (fun _ h=>by rw [h] at p2; simp at p2)⟩ (by simp only; omega)
   ·refine ext0 hy (ext1 hy (ext2 hy (ext0 hy (ext1 hy (ext2 hy ?_)))))
    rw [wr1i hk (by omega)]
    exact hI (k+1,spn s y) ⟨hk,step (fun h _=>by rw [h] at p; simp at p)⟩ (by simp only; omega)
  ·have hk:c.length≤k:=by have:=of_decide_eq_false f; omega
   rw [List.take_of_length_le hk] at g2
   rw [wr1i hi (by omega)]
   refine hJ (i+1,s) ⟨hi,by simp only; rw [g2,cellsB_succ hbb,hc],?_⟩ (by simp only; omega)
   simp only
   rw [cellsB_succ hbb]
   constructor
   ·intro e
    have:=(List.append_eq_nil_iff.1 e).2
    rw [this] at hlen
    simp at hlen
    omega
   ·intro e; omega
 ·have hi:n≤i:=by have:=of_decide_eq_false d; omega
  rw [List.take_of_length_le (by rw [bods_length]; omega)] at g2
  rw [← g2] at h2
  exact h2
set_option maxRecDepth 100000
def kpQD:FuncId→Nat→Option (List Tmp):=slotsOf [(29,0,[0,1,5,6,7]),(13,0,[0,2,5,7,8,11,12])]
noncomputable def cfQD:Cfg:={ cfgG Tryd.prog glX moZ poP (rtP fN) (inN []) kpQD with clean:=fun g=>true }
def e1C:Cl:=(1,0,0)
def e2C:Cl:=(0,1,0)
noncomputable def sh29 (a b k:Nat):St:=⟨mkT [(0,iv (a:Int)),(1,iv (b:Int)),(5,V.ptr (Id.p 0) 0 0),(6,V.ptr (Id.p 1) 0 0),(7,iv (k:Int))],⟨[(0,O.rows 3 false [clr e1C]),(1,O.rows 3 false [clr e2C])],2,[]⟩⟩
noncomputable def sh13N (l:List Kd) (m:List Bk) (n:Int) (d:Cl) (i:Nat):St:=⟨mkT [(0,V.lst 3 (kdl l)),(2,iv n),(5,V.ptr (Id.p 0) 0 0),(7,V.ptr (Id.p 1) 0 0),(8,V.ptr (Id.p 2) 0 0),(11,V.ptr (Id.p 3) 0 0),(12,iv (i:Int))],⟨[(0,O.rows 1 false [[V.lst 6 (bkl m)]]),(1,O.rows 3 false [clr d]),(2,O.rows 1 false [[nilS]]),(3,O.rows 1 false [[nilS]])],4,[]⟩⟩
noncomputable def sh13S (l:List Kd) (m:List Bk) (n:Int) (d:Cl) (i:Nat) (r:List Bk) (q:Nat):St:=⟨mkT [(0,V.lst 3 (kdl l)),(2,iv n),(5,V.ptr (Id.p 0) 0 0),(7,V.ptr (Id.p 1) 0 0),(8,V.ptr (Id.p 2) 0 0),(11,V.ptr (Id.p 3) 0 0),(12,iv (i:Int))],⟨[(0,O.rows 1 false [[V.lst 6 (bkl m)]]),(1,O.rows 3 false [clr d]),(2,O.rows 1 false [[nilS]]),(3,O.rows 1 false [[V.sl (Id.p 4) 0 q]]),(4,O.rows 6 true (bkl r))],5,[]⟩⟩
set_option maxRecDepth 10000
theorem hcQD:cfQD.ok Tryd.prog:=by
 have h:(cfgG Tryd.prog glX moZ poP (rtP fN) (inN []) kpQD).ok Tryd.prog:=cfgG_ok (rtP_ok fN)
 exact ⟨h.1,h.2⟩
theorem two_ax : ∀ a,a<24 → ∀ b,b<24→tn a e1C=tn b e1C→tn a e2C=tn b e2C→a=b:=by decide +kernel
theorem e_bd:Bd 1000 e1C∧Bd 1000 e2C:=by unfold Bd Nr e1C e2C; decide
theorem clB {x y:Cl}:(x.1==y.1&&(x.2.1==y.2.1&&(x.2.2==y.2.2&&true)))=dc (x=y):=by
 by_cases h:x=y
 ·rw [dc_t h]; subst h; simp
 ·rw [dc_f h]
  have : ¬ (x.1=y.1∧x.2.1=y.2.1∧x.2.2=y.2.2):=fun q=>h (cl_ext q.1 q.2.1 q.2.2)
  simp only [Bool.and_true,Bool.and_eq_false_imp,beq_iff_eq,beq_eq_false_iff_ne,ne_eq]
  intro h1 h2 h3
  exact this ⟨h1,h2,h3⟩
theorem composed29 {a b:Nat} {R:V→Prop} (ha:a<24) (hb:b<24) (h:R (iv (comp a b:Int))):K0G Tryd.prog glX 29 [iv (a:Int),iv (b:Int)] R:=by
 refine K0_by hmX hcQD 3000 Tryd.func29 (p:=La 0 [(0:Tmp),(1:Tmp),(5:Tmp),(6:Tmp),(7:Tmp)] (WY Tryd.prog cfQD 2994 (Env.mk (Bs.mk 0 []) 0 none 35 29 0) (cdAt [1,1,0,1,0,0] (bodyOf Tryd.f29))) (Qblk 0 (Qthen (WY Tryd.prog cfQD 2997 (Env.mk (Bs.mk 0 []) 0 none 35 29 0) (cdAt [1,1,1] (bodyOf Tryd.f29)) (QendX Tryd.prog Tryd.f29 fun v h=>R (frzW h v))) (QendX Tryd.prog Tryd.f29 fun v h=>R (frzW h v)))) (St.mk (mkT [(0,iv (↑a:Int)),(1,iv (↑b:Int)),(5,V.ptr (Id.p 0) 0 0),(6,V.ptr (Id.p 1) 0 0),(7,iv (0:Int))]) (Hp.mk [(0,O.rows 3 false [[iv (1:Int),iv (0:Int),iv (0:Int)]]),(1,O.rows 3 false [[iv (0:Int),iv (1:Int),iv (0:Int)]])] 2 []))) (by kernel_rfl) ?_
 have hc:=comp_lt ha hb
 refine La.of (σ:=Nat) (fun k=>sh29 a b k) (fun k=>k≤comp a b) (fun k=>24 - k) 0 (by kernel_rfl) (by omega) ?_
 rintro k g1 J hJ
 refine see (p:=ifB (decide ((↑k:Int)<(24:Int))) (K0G Tryd.prog glX 28 [V.agg [iv (1:Int),iv (0:Int),iv (0:Int)],iv (↑k:Int)] fun v=>onAgg v fun cs=>onCons cs fun u r=>onIntK IntKind.i64 u fun n=>onCons r fun u r=>onIntK IntKind.i64 u fun n_1=>onCons r fun u r=>onIntK IntKind.i64 u fun n_2=>onNil r (K0G Tryd.prog glX 28 [V.agg [iv (1:Int),iv (0:Int),iv (0:Int)],iv (↑a:Int)] fun v=>onAgg v fun cs=>onCons cs fun u r=>onIntK IntKind.i64 u fun n_3=>onCons r fun u r=>onIntK IntKind.i64 u fun n_4=>onCons r fun u r=>onIntK IntKind.i64 u fun n_5=>onNil r (K0G Tryd.prog glX 28 [V.agg [iv n_3,iv n_4,iv n_5],iv (↑b:Int)] fun v=>onAgg v fun cs=>onCons cs fun u r=>onIntK IntKind.i64 u fun n_6=>onCons r fun u r=>onIntK IntKind.i64 u fun n_7=>onCons r fun u r=>onIntK IntKind.i64 u fun n_8=>onNil r (ifB (n==n_6&&(fun b=>n_1==n_7&&b) ((fun b=>n_2==n_8&&b) true)) (K0G Tryd.prog glX 28 [V.agg [iv (0:Int),iv (1:Int),iv (0:Int)],iv (↑k:Int)] fun v=>onAgg v fun cs=>onCons cs fun u r=>onIntK IntKind.i64 u fun n=>onCons r fun u r=>onIntK IntKind.i64 u fun n_9=>onCons r fun u r=>onIntK IntKind.i64 u fun n_10=>onNil r (K0G Tryd.prog glX 28 [V.agg [iv (0:Int),iv (1:Int),iv (0:Int)],iv (↑a:Int)] fun v=>onAgg v fun cs=>onCons cs fun u r=>onIntK IntKind.i64 u fun n_11=>onCons r fun u r=>onIntK IntKind.i64 u fun n_12=>onCons r fun u r=>onIntK IntKind.i64 u fun n_13=>onNil r (K0G Tryd.prog glX 28 [V.agg [iv n_11,iv n_12,iv n_13],iv (↑b:Int)] fun v=>onAgg v fun cs=>onCons cs fun u r=>onIntK IntKind.i64 u fun n_14=>onCons r fun u r=>onIntK IntKind.i64 u fun n_15=>onCons r fun u r=>onIntK IntKind.i64 u fun n_16=>onNil r (ifB (n==n_14&&(fun b=>n_9==n_15&&b) ((fun b=>n_10==n_16&&b) true)) (R (iv (↑k:Int))) (J (St.mk (mkT [(0,iv (↑a:Int)),(1,iv (↑b:Int)),(5,V.ptr (Id.p 0) 0 0),(6,V.ptr (Id.p 1) 0 0),(7,iv (IntKind.i64.wrap ((↑k:Int)+(1:Int))))]) (Hp.mk [(0,O.rows 3 false [[iv (1:Int),iv (0:Int),iv (0:Int)]]),(1,O.rows 3 false [[iv (0:Int),iv (1:Int),iv (0:Int)]])] 2 []))))))) (J (St.mk (mkT [(0,iv (↑a:Int)),(1,iv (↑b:Int)),(5,V.ptr (Id.p 0) 0 0),(6,V.ptr (Id.p 1) 0 0),(7,iv (IntKind.i64.wrap ((↑k:Int)+(1:Int))))]) (Hp.mk [(0,O.rows 3 false [[iv (1:Int),iv (0:Int),iv (0:Int)]]),(1,O.rows 3 false [[iv (0:Int),iv (1:Int),iv (0:Int)]])] 2 []))))))) (R (iv (0:Int)))) (by kernel_rfl) ?_
 have hk:k<24:=by omega
 refine ifB_t (by simp; omega) ?_
 have next:k≠comp a b→J (sh29 a b (k+1)):=fun hne=>hJ (k+1) (by omega) (by omega)
 have eB:=e_bd
 refine turned100 (c:=e1C) (eB.1.mono (by omega)) k hk (onAgg_agg (onCons_cons (onIntK_iv (onCons_cons (onIntK_iv (onCons_cons (onIntK_iv (onNil_nil ?_))))))))
 refine turned100 (c:=e1C) (eB.1.mono (by omega)) a ha (onAgg_agg (onCons_cons (onIntK_iv (onCons_cons (onIntK_iv (onCons_cons (onIntK_iv (onNil_nil ?_))))))))
 refine turned100 (c:=tn a e1C) ((tn_bd eB.1).mono (by omega)) b hb (onAgg_agg (onCons_cons (onIntK_iv (onCons_cons (onIntK_iv (onCons_cons (onIntK_iv (onNil_nil ?_))))))))
 rw [wr1i hk (by omega)]
 refine ifB_mk (fun c1=>?_) (fun c1=>?_)
 ·have c1:tn k e1C=tn b (tn a e1C):=dc_true (clB.symm.trans c1)
  refine turned100 (c:=e2C) (eB.2.mono (by omega)) k hk (onAgg_agg (onCons_cons (onIntK_iv (onCons_cons (onIntK_iv (onCons_cons (onIntK_iv (onNil_nil ?_))))))))
  refine turned100 (c:=e2C) (eB.2.mono (by omega)) a ha (onAgg_agg (onCons_cons (onIntK_iv (onCons_cons (onIntK_iv (onCons_cons (onIntK_iv (onNil_nil ?_))))))))
  refine turned100 (c:=tn a e2C) ((tn_bd eB.2).mono (by omega)) b hb (onAgg_agg (onCons_cons (onIntK_iv (onCons_cons (onIntK_iv (onCons_cons (onIntK_iv (onNil_nil ?_))))))))
  refine ifB_mk (fun c2=>?_) (fun c2=>?_)
  ·have c2:tn k e2C=tn b (tn a e2C):=dc_true (clB.symm.trans c2)
   rw [← tn_comp ha hb] at c1 c2
   rw [two_ax k hk (comp a b) hc c1 c2]
   exact h
  ·refine next (fun e=>?_)
   have c2 : ¬ tn k e2C=tn b (tn a e2C):=dc_false (clB.symm.trans c2)
   rw [e,tn_comp ha hb] at c2
   exact c2 rfl
 ·refine next (fun e=>?_)
  have c1 : ¬ tn k e1C=tn b (tn a e1C):=dc_false (clB.symm.trans c1)
  rw [e,tn_comp ha hb] at c1
  exact c1 rfl
theorem isTurn25 {n:Int} {R:V→Prop} (h:R (bv (dc (0≤n∧n≤23)))):K0G Tryd.prog glX 25 [iv n] R:=by
 refine K0_by hmX hcQD 3000 Tryd.func25 (p:=K0G Tryd.prog glX 46 [iv n,iv (0:Int),iv (23:Int)] fun v=>onBool v fun b=>R (bv b)) (by kernel_rfl) ?_
 exact within87 (onBool_bv h)
noncomputable def f13 (l:List Kd) (m:List Bk) (n:Int) (d:Cl) (z:Bool×Nat×Nat×List Bk):St:=match z.1 with | false=>sh13N l m n d z.2.1 | true=>sh13S l m n d z.2.1 z.2.2.2 z.2.2.1
set_option maxHeartbeats 1000000 in
theorem move13 {l:List Kd} {m:List Bk} {n:Int} {d:Cl} {R:V→Prop} (hl : ∀ q∈l,KdR q) (hll:(l.length:Int)≤1000000) (hml:m.length≤1000000) (hr : ∀ b∈m,BkR b) (h1 : ∀ e,errM l m e→e≠0→R (.tup [.agg [nilS],iv e])) (h2:OkM l m → ¬ ((0≤n∧n≤23)∧Bd 1000 d)→R (.tup [.agg [nilS],iv 2])) (h3:OkM l m → ∀ t:Nat,n=(t:Int)→t<24→Bd 1000 d → ¬ (∀ b∈m.map (mvB t d),BrickP l.length b)→R (.tup [.agg [nilS],iv 11])) (h4:OkM l m → ∀ t:Nat,n=(t:Int)→t<24→Bd 1000 d→(∀ b∈m.map (mvB t d),BrickP l.length b)→R (.tup [.agg [.lst 6 (bkl (m.map (mvB t d)))],iv 0])) (h5:OkM l m → ∀ t:Nat,n=(t:Int)→t<24→Bd 1000 d→m=[]→R (.tup [.agg [nilS],iv 0])):K0G Tryd.prog glX 13 [.lst 3 (kdl l),.agg [.lst 6 (bkl m)],iv n,.agg (clr d)] R:=by
 refine K0_by hmX hcQD 3000 Tryd.func13 (p:=K0G Tryd.prog glX 9 [V.lst 3 (kdl l),V.agg [V.lst 6 (bkl m)]] fun v=>onIntK IntKind.i64 v fun n_1=>ifB (n_1 != (0:Int)) (R (V.tup [V.agg [nilS],iv n_1])) (K0G Tryd.prog glX 25 [iv n] fun v=>onBool v fun b=>ifB (!b) (R (V.tup [V.agg [nilS],iv (2:Int)])) (K0G Tryd.prog glX 26 [V.agg [iv d.1,iv d.2.1,iv d.2.2],iv (-1000:Int),iv (1000:Int)] fun v=>onBool v fun b=>ifB (!b) (R (V.tup [V.agg [nilS],iv (2:Int)])) (La 0 [(0:Tmp),(2:Tmp),(5:Tmp),(7:Tmp),(8:Tmp),(11:Tmp),(12:Tmp)] (WY Tryd.prog cfQD 2992 (Env.mk (Bs.mk 0 []) 0 none 68 13 0) (cdAt [1,1,1,1,0,1,0,0] (bodyOf Tryd.f13))) (Qblk 0 (Qthen (WY Tryd.prog cfQD 2995 (Env.mk (Bs.mk 0 []) 0 none 68 13 0) (cdAt [1,1,1,1,1] (bodyOf Tryd.f13)) (QendX Tryd.prog Tryd.f13 fun v h=>R (frzW h v))) (QendX Tryd.prog Tryd.f13 fun v h=>R (frzW h v)))) (St.mk (mkT [(0,V.lst 3 (kdl l)),(2,iv n),(5,V.ptr (Id.p 0) 0 0),(7,V.ptr (Id.p 1) 0 0),(8,V.ptr (Id.p 2) 0 0),(11,V.ptr (Id.p 3) 0 0),(12,iv (0:Int))]) (Hp.mk [(0,O.rows 1 false [[V.lst 6 (bkl m)]]),(1,O.rows 3 false [[iv d.1,iv d.2.1,iv d.2.2]]),(2,O.rows 1 false [[nilS]]),(3,O.rows 1 false [[nilS]])] 4 [])))))) (by kernel_rfl) ?_
 refine check66 hl hll hml hr (fun e he hne=>onIntK_iv (ifB_t (by simpa using hne) (h1 e he hne))) (fun hA=>onIntK_iv (ifB_f rfl ?_))
 refine isTurn25 (onBool_bv (ifB_mk (fun c=>h2 hA (fun q=>dc_false (by simpa using c) q.1)) (fun c=>?_)))
 have htn:=dc_true (p:=0≤n∧n≤23) (by simpa using c)
 refine near49 (onBool_bv (ifB_mk (fun c=>h2 hA (fun q=>dc_false (p:=Nr (-1000) 1000 d) (by simpa using c) q.2)) (fun c=>?_)))
 have hd:Bd 1000 d:=dc_true (p:=Nr (-1000) 1000 d) (by simpa using c)
 obtain ⟨t,hn⟩ : ∃ t:Nat,n=(t:Int):=⟨n.toNat,by omega⟩
 have ht:t<24:=by omega
 have hBk : ∀ b∈m,(0≤b.2.2.1∧b.2.2.1<24)∧Bd 1000 b.2.1:=fun b hb=>by
  have h5:=hA.ask.all b hb
  exact ⟨⟨(hr b hb).1.1,h5.2.2.1⟩,h5.2.1⟩
 obtain ⟨c,hc⟩ : ∃ c,c=m.length:=⟨_,rfl⟩
 have hc40:c≤40:=hc ▸ hA.ask.few
 refine La.of (σ:=Bool×Nat×Nat×List Bk) (f13 l m n d) (fun z=>z.2.1≤c∧z.2.2.1=z.2.2.2.length∧z.2.2.2=(m.take z.2.1).map (mvB t d)∧(z.1=false→z.2.2.2=[]) ∧ ∀ x∈(m.take z.2.1).map (mvB t d),BrickP l.length x) (fun z=>c - z.2.1) (false,0,0,[]) rfl ⟨by simp only; omega,rfl,rfl,fun _=>rfl,by simp⟩ ?_
 rintro ⟨bo,i,q,r⟩ ⟨g1,gq,gr,gb,gv⟩ J hJ
 simp only at g1 gq gr gb gv
 have hq:q≤40:=by rw [gq,gr,List.length_map,List.length_take]; omega
 rcases bo with _ | _
 ·refine see (p:=ifB (decide ((↑i:Int)<(↑(bkl m).length:Int))) (onSome (bkl m)[i]? fun row=>onCons (List.drop 0 row) fun u r=>onIntK IntKind.i64 u fun n_1=>onCons r fun u r=>onIntK IntKind.i64 u fun n_2=>onCons r fun u r=>onIntK IntKind.i64 u fun n_3=>onCons r fun u r=>onIntK IntKind.i64 u fun n_4=>onCons r fun u r=>onIntK IntKind.u8 u fun n_5=>onCons r fun u r=>onIntK IntKind.u8 u fun n_6=>K0G Tryd.prog glX 28 [V.agg [iv n_2,iv n_3,iv n_4],iv n] fun v=>onAgg v fun cs=>onCons cs fun u r=>onIntK IntKind.i64 u fun n_7=>onCons r fun u r=>onIntK IntKind.i64 u fun n_8=>onCons r fun u r=>onIntK IntKind.i64 u fun n_9=>onNil r (K0G Tryd.prog glX 27 [V.agg [iv n_7,iv n_8,iv n_9],V.agg [iv d.1,iv d.2.1,iv d.2.2]] fun v=>onAgg v fun cs=>onCons cs fun u r=>onIntK IntKind.i64 u fun n_10=>onCons r fun u r=>onIntK IntKind.i64 u fun n_11=>onCons r fun u r=>onIntK IntKind.i64 u fun n_12=>onNil r (K0G Tryd.prog glX 29 [iv (IntKind.i64.wrap n_5),iv n] fun v=>onIntK IntKind.i64 v fun n_13=>K0G Tryd.prog glX 30 [V.lst 3 (kdl l),V.agg [iv n_1,iv n_10,iv n_11,iv n_12,V.raw (Value.int IntKind.u8 (IntKind.u8.wrap n_13)),V.raw (Value.int IntKind.u8 n_6)]] fun v=>onBool v fun b=>ifB (!b) (R (V.tup [V.agg [nilS],iv (11:Int)])) (J (St.mk (mkT [(0,V.lst 3 (kdl l)),(2,iv n),(5,V.ptr (Id.p 0) 0 0),(7,V.ptr (Id.p 1) 0 0),(8,V.ptr (Id.p 2) 0 0),(11,V.ptr (Id.p 3) 0 0),(12,iv (IntKind.i64.wrap ((↑i:Int)+(1:Int))))]) (Hp.mk [(0,O.rows 1 false [[V.lst 6 (bkl m)]]),(1,O.rows 3 false [[iv d.1,iv d.2.1,iv d.2.2]]),(2,O.rows 1 false [[nilS]]),(3,O.rows 1 false [[V.sl (Id.p 4) 0 1]]),(4,O.rows 6 true [[iv n_1,iv n_10,iv n_11,iv n_12,V.raw (Value.int IntKind.u8 (IntKind.u8.wrap n_13)),V.raw (Value.int IntKind.u8 n_6)]])] 5 [])))))) (R (V.tup [V.agg [nilS],iv (0:Int)]))) (by kernel_rfl) ?_
  rw [bkl_length,← hc]
  refine ifB_mk (fun e=>?_) (fun e=>?_)
  ·have hi:i<c:=by have:=of_decide_eq_true e; omega
   obtain ⟨b,hb⟩:=getI (l:=m) (k:=i) (by omega)
   have hbm:=mem_at hb
   obtain ⟨hb1,hb2⟩:=hBk b hbm
   refine bel hb ?_
   rw [hn]
   refine turned100 (c:=b.2.1) (hb2.mono (by omega)) t ht (onAgg_agg (onCons_cons (onIntK_iv (onCons_cons (onIntK_iv (onCons_cons (onIntK_iv (onNil_nil ?_))))))))
   refine plus99 (a:=tn t b.2.1) (b:=d) ((tn_bd hb2).mono (by omega)) (hd.mono (by omega)) (onAgg_agg (onCons_cons (onIntK_iv (onCons_cons (onIntK_iv (onCons_cons (onIntK_iv (onNil_nil ?_))))))))
   rw [wr (n:=b.2.2.1) (by omega) (by omega)]
   have hu:b.2.2.1=((b.2.2.1.toNat:Nat):Int):=by omega
   have hlt:b.2.2.1.toNat<24:=by omega
   have hcm:=comp_lt hlt ht
   rw [hu]
   refine composed29 hlt ht (onIntK_iv ?_)
   rw [u8w (by omega) (by omega)]
   refine brick47 (b:=mvB t d b) hll (onBool_bv (ifB_mk (fun f=>?_) (fun f=>?_)))
   ·exact h3 hA t hn ht hd (fun q=>nbt f (q (mvB t d b) (List.mem_map.2 ⟨b,hbm,rfl⟩)))
   have hval : ∀ x∈(m.take (i+1)).map (mvB t d),BrickP l.length x:=by
    rw [take_succ' hb,List.map_append]
    intro x hx
    rcases List.mem_append.1 hx with hx | hx
    ·exact gv x hx
    ·rw [List.mem_singleton.1 hx]; exact nb f
   rw [← hn]
   rw [wr1i hi (by omega)]
   exact hJ (true,i+1,1,[mvB t d b]) ⟨hi,rfl,by simp only; rw [take_succ' hb,List.map_append,← gr,gb rfl]; rfl,(fun h=>by cases h),hval⟩ (by simp only; omega)
  have hi:c≤i:=by have:=of_decide_eq_false e; omega
  have hm:m=[]:=by
   have:r.length=0:=by rw [gb rfl]; rfl
   rw [gr,List.length_map,List.length_take] at this
   exact List.eq_nil_of_length_eq_zero (by omega)
  exact h5 hA t hn ht hd hm
 ·refine see (p:=ifB (decide ((↑i:Int)<(↑(bkl m).length:Int))) (onSome (bkl m)[i]? fun row=>onCons (List.drop 0 row) fun u r_1=>onIntK IntKind.i64 u fun n_1=>onCons r_1 fun u r_2=>onIntK IntKind.i64 u fun n_2=>onCons r_2 fun u r_3=>onIntK IntKind.i64 u fun n_3=>onCons r_3 fun u r_4=>onIntK IntKind.i64 u fun n_4=>onCons r_4 fun u r_5=>onIntK IntKind.u8 u fun n_5=>onCons r_5 fun u r_6=>onIntK IntKind.u8 u fun n_6=>K0G Tryd.prog glX 28 [V.agg [iv n_2,iv n_3,iv n_4],iv n] fun v=>onAgg v fun cs=>onCons cs fun u r_7=>onIntK IntKind.i64 u fun n_7=>onCons r_7 fun u r_8=>onIntK IntKind.i64 u fun n_8=>onCons r_8 fun u r_9=>onIntK IntKind.i64 u fun n_9=>onNil r_9 (K0G Tryd.prog glX 27 [V.agg [iv n_7,iv n_8,iv n_9],V.agg [iv d.1,iv d.2.1,iv d.2.2]] fun v=>onAgg v fun cs=>onCons cs fun u r_10=>onIntK IntKind.i64 u fun n_10=>onCons r_10 fun u r_11=>onIntK IntKind.i64 u fun n_11=>onCons r_11 fun u r_12=>onIntK IntKind.i64 u fun n_12=>onNil r_12 (K0G Tryd.prog glX 29 [iv (IntKind.i64.wrap n_5),iv n] fun v=>onIntK IntKind.i64 v fun n_13=>K0G Tryd.prog glX 30 [V.lst 3 (kdl l),V.agg [iv n_1,iv n_10,iv n_11,iv n_12,V.raw (Value.int IntKind.u8 (IntKind.u8.wrap n_13)),V.raw (Value.int IntKind.u8 n_6)]] fun v=>onBool v fun b=>ifB (!b) (R (V.tup [V.agg [nilS],iv (11:Int)])) (need ((q+1) * 40≤140737488355328) (J (St.mk (mkT [(0,V.lst 3 (kdl l)),(2,iv n),(5,V.ptr (Id.p 0) 0 0),(7,V.ptr (Id.p 1) 0 0),(8,V.ptr (Id.p 2) 0 0),(11,V.ptr (Id.p 3) 0 0),(12,iv (IntKind.i64.wrap ((↑i:Int)+(1:Int))))]) (Hp.mk [(0,O.rows 1 false [[V.lst 6 (bkl m)]]),(1,O.rows 3 false [[iv d.1,iv d.2.1,iv d.2.2]]),(2,O.rows 1 false [[nilS]]),(3,O.rows 1 false [[V.sl (Id.p 4) 0 (q+1)]]),(4,O.rows 6 true (List.take q (bkl r)++[[iv n_1,iv n_10,iv n_11,iv n_12,V.raw (Value.int IntKind.u8 (IntKind.u8.wrap n_13)),V.raw (Value.int IntKind.u8 n_6)]]))] 5 []))))))) (R (V.tup [V.agg [V.lst 6 (sub (bkl r) 0 q)],iv (0:Int)]))) (by kernel_rfl) ?_
  rw [bkl_length,← hc]
  refine ifB_mk (fun e=>?_) (fun e=>?_)
  ·have hi:i<c:=by have:=of_decide_eq_true e; omega
   obtain ⟨b,hb⟩:=getI (l:=m) (k:=i) (by omega)
   have hbm:=mem_at hb
   obtain ⟨hb1,hb2⟩:=hBk b hbm
   refine bel hb ?_
   rw [hn]
   refine turned100 (c:=b.2.1) (hb2.mono (by omega)) t ht (onAgg_agg (onCons_cons (onIntK_iv (onCons_cons (onIntK_iv (onCons_cons (onIntK_iv (onNil_nil ?_))))))))
   refine plus99 (a:=tn t b.2.1) (b:=d) ((tn_bd hb2).mono (by omega)) (hd.mono (by omega)) (onAgg_agg (onCons_cons (onIntK_iv (onCons_cons (onIntK_iv (onCons_cons (onIntK_iv (onNil_nil ?_))))))))
   rw [wr (n:=b.2.2.1) (by omega) (by omega)]
   have hu:b.2.2.1=((b.2.2.1.toNat:Nat):Int):=by omega
   have hlt:b.2.2.1.toNat<24:=by omega
   have hcm:=comp_lt hlt ht
   rw [hu]
   refine composed29 hlt ht (onIntK_iv ?_)
   rw [u8w (by omega) (by omega)]
   refine brick47 (b:=mvB t d b) hll (onBool_bv (ifB_mk (fun f=>?_) (fun f=>?_)))
   ·exact h3 hA t hn ht hd (fun q=>nbt f (q (mvB t d b) (List.mem_map.2 ⟨b,hbm,rfl⟩)))
   have hval : ∀ x∈(m.take (i+1)).map (mvB t d),BrickP l.length x:=by
    rw [take_succ' hb,List.map_append]
    intro x hx
    rcases List.mem_append.1 hx with hx | hx
    ·exact gv x hx
    ·rw [List.mem_singleton.1 hx]; exact nb f
   rw [← hn]
   refine need_mk ⟨by omega,?_⟩
   have e:List.take q (bkl r)++[bkr (mvB t d b)]=bkl (r++[mvB t d b]):=by
    rw [gq,← bkl_length,List.take_length]; simp [bkl]
   rw [wr1i hi (by omega)]
   refine (congrArg J ?_).mp (hJ (true,i+1,q+1,r++[mvB t d b]) ⟨hi,by simp [gq],by simp only; rw [take_succ' hb,List.map_append,gr]; rfl,(fun h=>by cases h),hval⟩ (by simp only; omega))
   show sh13S l m n d (i+1) (r++[mvB t d b]) (q+1)=_
   unfold sh13S
   rw [← e]
   rfl
  have hi:c≤i:=by have:=of_decide_eq_false e; omega
  have e:sub (bkl r) 0 q=bkl r:=by rw [gq,← bkl_length,sub,List.drop_zero,List.take_length]
  rw [e,gr,List.take_of_length_le (by omega)]
  exact h4 hA t hn ht hd (by rw [← List.take_of_length_le (l:=m) (i:=i) (by omega)]; exact gv)
set_option maxHeartbeats 1000000 in
theorem move38B {l:List Kd} {m:List Bk} {t:Int} {d:Cl} {R:V→Prop} (hl : ∀ q∈l,KdR q) (hll:(l.length:Int)≤1000000) (hml:m.length≤1000000) (hr : ∀ b∈m,BkR b) (h1 : ∀ e,errM l m e→e≠0→R (.tup [.agg [nilS],iv e])) (h2:OkM l m → ¬ ((0≤t∧t≤23)∧Bd 1000 d)→R (.tup [.agg [nilS],iv 2])) (h3:OkM l m → ∀ n:Nat,t=(n:Int)→n<24→Bd 1000 d → ¬ (∀ b∈m.map (mvB n d),BrickP l.length b)→R (.tup [.agg [nilS],iv 11])) (h4:OkM l m → ∀ n:Nat,t=(n:Int)→n<24→Bd 1000 d→(∀ b∈m.map (mvB n d),BrickP l.length b)→R (.tup [.agg [.lst 6 (bkl (m.map (mvB n d)))],iv 0])):KB Tryd.prog glX 12 [.lst 3 (kdl l),.agg [.lst 6 (bkl m)],iv t,.agg (clr d)] ⟨[],0,[]⟩ R:=by
 refine KB_of_WYB hmX (hcM fN) 3000 Tryd.func12 rfl (see (p:=K0G Tryd.prog glX 8 [V.lst 3 (kdl l),V.agg [V.lst 6 (bkl m)]] fun v=>onIntK IntKind.i64 v fun n=>ifB (n != (0:Int)) (R (V.tup [V.agg [nilS],iv n])) (K0G Tryd.prog glX 21 [iv t] fun v=>onBool v fun b=>ifB (!b) (R (V.tup [V.agg [nilS],iv (2:Int)])) (K0G Tryd.prog glX 22 [V.agg [iv d.1,iv d.2.1,iv d.2.2]] fun v=>onBool v fun b=>ifB (!b) (R (V.tup [V.agg [nilS],iv (2:Int)])) (need ((bkl m).length≤(bkl m).length) (need (40 * (bkl m).length≤140737488355328) (need ((bkl m).length≤9223372036854775807) (La 0 [(0:Tmp),(2:Tmp),(5:Tmp),(7:Tmp),(8:Tmp),(11:Tmp),(35:Tmp),(36:Tmp),(37:Tmp)] (WY Tryd.prog (cfM fN) 2992 (Env.mk (Bs.mk 0 []) 0 none 57 12 0) (cdAt [1,1,1,1,0,1,0,0] (bodyOf Tryd.f12))) (Qblk 0 (Qthen (WY Tryd.prog (cfM fN) 2995 (Env.mk (Bs.mk 0 []) 0 none 57 12 0) (cdAt [1,1,1,1,1] (bodyOf Tryd.f12)) (QendX Tryd.prog Tryd.f12 fun v h' => dataT 0 (gcH 0 v h') v R)) (QendX Tryd.prog Tryd.f12 fun v h' => dataT 0 (gcH 0 v h') v R))) (St.mk (mkT [(0,V.lst 3 (kdl l)),(2,iv t),(5,V.ptr (Id.p 0) 0 0),(7,V.ptr (Id.p 1) 0 0),(8,V.ptr (Id.p 2) 0 0),(11,V.sl (Id.p 3) 0 (bkl m).length),(35,V.lst 6 (bkl m)),(36,iv (↑(bkl m).length:Int)),(37,iv (0:Int))]) (Hp.mk [(0,O.rows 1 false [[V.lst 6 (bkl m)]]),(1,O.rows 3 false [[iv d.1,iv d.2.1,iv d.2.2]]),(2,O.rows 1 false [[nilS]]),(3,O.rows 6 true (List.replicate (bkl m).length [iv (0:Int),iv (0:Int),iv (0:Int),iv (0:Int),V.raw (Value.int IntKind.u8 (0:Int)),V.raw (Value.int IntKind.u8 (0:Int))]))] 4 []))))))))) (by kernel_rfl) ?_)
 refine check39 hl hll hml hr (fun e he hne=>onIntK_iv (ifB_t (by simpa using hne) (h1 e he hne))) (fun hA=>onIntK_iv (ifB_f rfl ?_))
 refine turn77 (onBool_bv (ifB_mk (fun c=>h2 hA (fun q=>dc_false (by simpa using c) q.1)) (fun c=>?_)))
 have ht:=dc_true (p:=0≤t∧t≤23) (by simpa using c)
 refine place78 (onBool_bv (ifB_mk (fun c=>h2 hA (fun q=>dc_false (by simpa using c) q.2)) (fun c=>?_)))
 have hd:Bd 1000 d:=dc_true (by simpa using c)
 obtain ⟨n,hn⟩ : ∃ n:Nat,t=(n:Int):=⟨t.toNat,by omega⟩
 have hn24:n<24:=by omega
 have hBk : ∀ b∈m,(0≤b.2.2.1∧b.2.2.1<24)∧Bd 1000 b.2.1∧BkR b:=fun b hb=>by
  have h5:=hA.ask.all b hb
  have h6:=hr b hb
  exact ⟨⟨h6.1.1,h5.2.2.1⟩,h5.2.1,h6⟩
 refine need_mk ⟨Nat.le_refl _,need_mk ⟨by rw [bkl_length]; omega,need_mk ⟨by rw [bkl_length]; omega,?_⟩⟩⟩
 rw [bkl_length]
 obtain ⟨s,hs⟩ : ∃ s,s=m.length:=⟨_,rfl⟩
 rw [← hs]
 refine La.of (σ:=Nat) (fun i=>sh38 l m t d (bkl ((m.take i).map (mvB n d))++List.replicate (s - i) bk0) s i) (fun i=>i≤s) (fun i=>s - i) 0 (by kernel_rfl) (by omega) ?_
 rintro i g1 J hJ
 have hlen:(bkl ((m.take i).map (mvB n d))).length=i:=by rw [bkl_length,List.length_map,List.length_take]; omega
 obtain ⟨rs,hrs⟩ : ∃ rs,rs=bkl ((m.take i).map (mvB n d))++List.replicate (s - i) bk0:=⟨_,rfl⟩
 rw [← hrs]
 refine see (p:=ifB (decide ((↑i:Int)<(↑s:Int))) (onSome (bkl m)[i]? fun row=>onCons (List.drop 0 row) fun u r=>onIntK IntKind.i64 u fun n=>onCons r fun u r=>onIntK IntKind.i64 u fun n_1=>onCons r fun u r=>onIntK IntKind.i64 u fun n_2=>onCons r fun u r=>onIntK IntKind.i64 u fun n_3=>onCons r fun u r=>onIntK IntKind.u8 u fun n_4=>onCons r fun u r=>onIntK IntKind.u8 u fun n_5=>K0G Tryd.prog glX 23 [V.agg [iv n,iv n_1,iv n_2,iv n_3,V.raw (Value.int IntKind.u8 n_4),V.raw (Value.int IntKind.u8 n_5)],iv t,V.agg [iv d.1,iv d.2.1,iv d.2.2]] fun v=>onAgg v fun cs=>onCons cs fun u r=>onIntK IntKind.i64 u fun n=>onCons r fun u r=>onIntK IntKind.i64 u fun n_6=>onCons r fun u r=>onIntK IntKind.i64 u fun n_7=>onCons r fun u r=>onIntK IntKind.i64 u fun n_8=>onCons r fun u r=>onIntK IntKind.u8 u fun n_9=>onCons r fun u r=>onIntK IntKind.u8 u fun n_10=>onNil r (need (i<s) (onSome rs[0+i]? fun row=>guardB ((0+6).ble row.length) (J (St.mk (mkT [(0,V.lst 3 (kdl l)),(2,iv t),(5,V.ptr (Id.p 0) 0 0),(7,V.ptr (Id.p 1) 0 0),(8,V.ptr (Id.p 2) 0 0),(11,V.sl (Id.p 3) 0 s),(35,V.lst 6 (bkl m)),(36,iv (↑s:Int)),(37,iv (IntKind.i64.wrap ((↑i:Int)+(1:Int))))]) (Hp.mk [(0,O.rows 1 false [[V.lst 6 (bkl m)]]),(1,O.rows 3 false [[iv d.1,iv d.2.1,iv d.2.2]]),(2,O.rows 1 false [[nilS]]),(3,O.rows 6 true (rs.set (0+i) (iv n::iv n_6::iv n_7::iv n_8::V.raw (Value.int IntKind.u8 n_9)::V.raw (Value.int IntKind.u8 n_10)::(List.append []) (List.drop 6 row))))] 4 [])))))) (K0G Tryd.prog glX 24 [V.lst 3 (kdl l),V.lst 6 (sub rs 0 s)] fun v=>onBool v fun b=>ifB (!b) (R (V.tup [V.agg [nilS],iv (11:Int)])) (R (V.tup [V.agg [V.lst 6 (sub rs 0 s)],iv (0:Int)])))) (by kernel_rfl) ?_
 refine ifB_mk (fun e=>?_) (fun e=>?_)
 ·have hi:i<s:=by have:=of_decide_eq_true e; omega
  obtain ⟨b,hb⟩:=getI (l:=m) (k:=i) (by omega)
  obtain ⟨hb1,hb2,hb3⟩:=hBk b (mem_at hb)
  refine bel hb ?_
  rw [hn]
  refine move79 (b:=b) hn24 hb1.1 hb1.2 hb2 hd (onAgg_agg (onCons_cons (onIntK_iv (onCons_cons (onIntK_iv (onCons_cons (onIntK_iv (onCons_cons (onIntK_iv (onCons_cons (onIntK_u8 (onCons_cons (onIntK_u8 (onNil_nil ?_))))))))))))))
  refine need_mk ⟨hi,onSome_mk (x:=bk0) ?_ (guardB_mk rfl ?_)⟩
  ·rw [hrs,Nat.zero_add,List.getElem?_append_right (by omega),hlen,Nat.sub_self,List.getElem?_replicate,if_pos (by omega)]
  ·rw [wr1i hi (by omega),← hn]
   have e:rs.set (0+i) (bkr (mvB n d b))=bkl ((m.take (i+1)).map (mvB n d))++List.replicate (s - (i+1)) bk0:=by
    rw [hrs,set_fill hlen hi,take_succ' hb]
    simp [bkl]
   refine (congrArg J ?_).mp (hJ (i+1) hi (by omega))
   rw [← e]
   rfl
 ·have hi:i=s:=by have:=of_decide_eq_false e; omega
  have e:sub rs 0 s=bkl (m.map (mvB n d)):=by
   rw [hrs,hi,Nat.sub_self,List.replicate_zero,List.append_nil,List.take_of_length_le (by omega),sub,List.drop_zero,List.take_of_length_le (by rw [bkl_length,List.length_map]; omega)]
  rw [e]
  refine areBricks80 hll (by rw [List.length_map]; exact hml) (fun x hx=>?_) (onBool_bv (ifB_mk (fun c=>h3 hA n hn hn24 hd (dc_false (by simpa using c))) (fun c=>h4 hA n hn hn24 hd (dc_true (by simpa using c)))))
  obtain ⟨b,hb,rfl⟩:=List.mem_map.1 hx
  obtain ⟨hb1,hb2,hb3⟩:=hBk b hb
  have:=comp_lt (a:=b.2.2.1.toNat) (b:=n) (by omega) hn24
  exact ⟨⟨by show (0:Int)≤((comp b.2.2.1.toNat n:Nat):Int); omega,by show ((comp b.2.2.1.toNat n:Nat):Int)≤255; omega⟩,hb3.2⟩
set_option maxRecDepth 100000
def mo3 (f:FuncId):Nat:=bif inN [12] f then 1 else bif inN [14] f then 4 else 0
def kp3:FuncId→Nat→Option (List Tmp):=slotsOf [(3,0,[5,9,16,104,105])]
noncomputable def cf3:Cfg:={ cfgG Tryd.prog glX mo3 poP (rtP fN) (inN []) kp3 with clean:=fun g=>true,fz:=fun f t=>inN [3] f&&inN [25] t }
noncomputable def sh3 (m x:List Bk) (q s i:Nat):St:=⟨mkT [(5,V.ptr (Id.p 0) 0 0),(9,V.ptr (Id.p 1) 0 0),(16,V.ptr (Id.p 2) 0 0),(104,iv (s:Int)),(105,iv (i:Int))],⟨[(0,O.rows 1 false [[V.lst 6 (bkl m)]]),(1,O.rows 1 false [[V.lst 6 (bkl m)]]),(2,O.rows 1 false [[V.sl (Id.p 3) 0 q]]),(3,O.rows 6 true (bkl x))],4,[]⟩⟩
end Go.Proofs.YtbionhgjgcpogaaDoor
