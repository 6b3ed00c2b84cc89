/- What calls of the examples return. -/
import Derived.Test.YtjcmjadimdokkaaGreatDoorXSF1
import Derived.Test.YtjcmjadimdokkaaGreatDoorXSF2
import Derived.Test.YtjcmjadimdokkaaGreatDoorXSF3
import Derived.Test.YtjcmjadimdokkaaGreatDoorXSF4
import Derived.Test.YtjcmjadimdokkaaGreatDoorXSF5
import Derived.Test.YtjcmjadimdokkaaGreatDoorXSF6
import Derived.Test.YtjcmjadimdokkaaGreatDoorXSF7
import Derived.Test.YtjcmjadimdokkaaGreatDoorXSF8
import Derived.Test.YtjcmjadimdokkaaGreatDoorXSF9
import Derived.Test.YtjcmjadimdokkaaGreatDoorXSF10
import Derived.Test.YtjcmjadimdokkaaGreatDoorXSF11
import Derived.Test.YtjcmjadimdokkaaGreatDoorXSF12
import Derived.Test.YtjcmjadimdokkaaGreatDoorXSF13
import Derived.Test.YtjcmjadimdokkaaGreatDoorXSF14
import Derived.Test.YtjcmjadimdokkaaGreatDoorXSF15
import Derived.Test.YtjcmjadimdokkaaGreatDoorXSF16
import Derived.Test.YtjcmjadimdokkaaGreatDoorXSF17
namespace Go.Proofs.YtjcmjadimdokkaaGreatDoor
open Go Go.Proofs.YtjcmjadimdokkaaGreatDoor.Clean
set_option linter.unusedVariables false
set_option maxRecDepth 100000
theorem tok0 : Facts Tryz.prog glX tb0 := trivial
theorem t0 : KFX fa0 := k0 tok0
theorem tok1 : Facts Tryz.prog glX tb1 := ⟨t0, tok0⟩
theorem t1 : KFX fa1 := k1 tok1
theorem tok2 : Facts Tryz.prog glX tb2 := ⟨t1, tok1⟩
theorem t2 : KFX fa2 := k2 tok2
theorem tok3 : Facts Tryz.prog glX tb3 := ⟨t2, tok2⟩
theorem t3 : KFX fa3 := k3 tok3
theorem tok4 : Facts Tryz.prog glX tb4 := ⟨t3, tok3⟩
theorem t4 : KFX fa4 := k4 tok4
theorem tok5 : Facts Tryz.prog glX tb5 := ⟨t4, tok4⟩
theorem t5 : KFX fa5 := k5 tok5
theorem tok6 : Facts Tryz.prog glX tb6 := ⟨t5, tok5⟩
theorem t6 : KFX fa6 := k6 tok6
theorem tok7 : Facts Tryz.prog glX tb7 := ⟨t6, tok6⟩
theorem t7 : KFX fa7 := k7 tok7
theorem tok8 : Facts Tryz.prog glX tb8 := ⟨t7, tok7⟩
theorem t8 : KFX fa8 := k8 tok8
theorem tok9 : Facts Tryz.prog glX tb9 := ⟨t8, tok8⟩
theorem t9 : KFX fa9 := k9 tok9
theorem tok10 : Facts Tryz.prog glX tb10 := ⟨t9, tok9⟩
theorem t10 : KFX fa10 := k10 tok10
theorem tok11 : Facts Tryz.prog glX tb11 := ⟨t10, tok10⟩
theorem t11 : KFX fa11 := k11 tok11
theorem tok12 : Facts Tryz.prog glX tb12 := ⟨t11, tok11⟩
theorem t12 : KFX fa12 := k12 tok12
theorem tok13 : Facts Tryz.prog glX tb13 := ⟨t12, tok12⟩
theorem t13 : KFX fa13 := k13 tok13
theorem tok14 : Facts Tryz.prog glX tb14 := ⟨t13, tok13⟩
theorem t14 : KFX fa14 := k14 tok14
theorem tok15 : Facts Tryz.prog glX tb15 := ⟨t14, tok14⟩
theorem t15 : KFX fa15 := k15 tok15
theorem tok16 : Facts Tryz.prog glX tb16 := ⟨t15, tok15⟩
theorem t16 : KFX fa16 := k16 tok16
theorem tok17 : Facts Tryz.prog glX tb17 := ⟨t16, tok16⟩
theorem t17 : KFX fa17 := k17 tok17
theorem tok18 : Facts Tryz.prog glX tb18 := ⟨t17, tok17⟩
theorem t18 : KFX fa18 := k18 tok18
theorem tok19 : Facts Tryz.prog glX tb19 := ⟨t18, tok18⟩
theorem t19 : KFX fa19 := k19 tok19
theorem tok20 : Facts Tryz.prog glX tb20 := ⟨t19, tok19⟩
theorem t20 : KFX fa20 := k20 tok20
theorem tok21 : Facts Tryz.prog glX tb21 := ⟨t20, tok20⟩
theorem t21 : KFX fa21 := k21 tok21
theorem tok22 : Facts Tryz.prog glX tb22 := ⟨t21, tok21⟩
theorem t22 : KFX fa22 := k22 tok22
theorem tok23 : Facts Tryz.prog glX tb23 := ⟨t22, tok22⟩
theorem t23 : KFX fa23 := k23 tok23
theorem tok24 : Facts Tryz.prog glX tb24 := ⟨t23, tok23⟩
theorem t24 : KFX fa24 := k24 tok24
theorem tok25 : Facts Tryz.prog glX tb25 := ⟨t24, tok24⟩
theorem t25 : KFX fa25 := k25 tok25
theorem tok26 : Facts Tryz.prog glX tb26 := ⟨t25, tok25⟩
theorem t26 : KFX fa26 := k26 tok26
theorem tok27 : Facts Tryz.prog glX tb27 := ⟨t26, tok26⟩
theorem t27 : KFX fa27 := k27 tok27
theorem tok28 : Facts Tryz.prog glX tb28 := ⟨t27, tok27⟩
theorem t28 : KFX fa28 := k28 tok28
theorem tok29 : Facts Tryz.prog glX tb29 := ⟨t28, tok28⟩
theorem t29 : KFX fa29 := k29 tok29
theorem tok30 : Facts Tryz.prog glX tb30 := ⟨t29, tok29⟩
theorem t30 : KFX fa30 := k30 tok30
theorem tok31 : Facts Tryz.prog glX tb31 := ⟨t30, tok30⟩
theorem t31 : KFX fa31 := k31 tok31
theorem tok32 : Facts Tryz.prog glX tb32 := ⟨t31, tok31⟩
theorem t32 : KFX fa32 := k32 tok32
theorem tok33 : Facts Tryz.prog glX tb33 := ⟨t32, tok32⟩
theorem t33 : KFX fa33 := k33 tok33
theorem tok34 : Facts Tryz.prog glX tb34 := ⟨t33, tok33⟩
theorem t34 : KFX fa34 := k34 tok34
theorem tok35 : Facts Tryz.prog glX tb35 := ⟨t34, tok34⟩
theorem t35 : KFX fa35 := k35 tok35
theorem tok36 : Facts Tryz.prog glX tb36 := ⟨t35, tok35⟩
theorem t36 : KFX fa36 := k36 tok36
theorem tok37 : Facts Tryz.prog glX tb37 := ⟨t36, tok36⟩
theorem t37 : KFX fa37 := k37 tok37
theorem tok38 : Facts Tryz.prog glX tb38 := ⟨t37, tok37⟩
theorem t38 : KFX fa38 := k38 tok38
theorem tok39 : Facts Tryz.prog glX tb39 := ⟨t38, tok38⟩
theorem t39 : KFX fa39 := k39 tok39
theorem tok40 : Facts Tryz.prog glX tb40 := ⟨t39, tok39⟩
theorem t40 : KFX fa40 := k40 tok40
theorem tok41 : Facts Tryz.prog glX tb41 := ⟨t40, tok40⟩
theorem t41 : KFX fa41 := k41 tok41
theorem tok42 : Facts Tryz.prog glX tb42 := ⟨t41, tok41⟩
theorem t42 : KFX fa42 := k42 tok42
theorem tok43 : Facts Tryz.prog glX tb43 := ⟨t42, tok42⟩
theorem t43 : KFX fa43 := k43 tok43
theorem tok44 : Facts Tryz.prog glX tb44 := ⟨t43, tok43⟩
theorem t44 : KFX fa44 := k44 tok44
theorem tok45 : Facts Tryz.prog glX tb45 := ⟨t44, tok44⟩
theorem t45 : KFX fa45 := k45 tok45
theorem tok46 : Facts Tryz.prog glX tb46 := ⟨t45, tok45⟩
theorem t46 : KFX fa46 := k46 tok46
theorem tok47 : Facts Tryz.prog glX tb47 := ⟨t46, tok46⟩
theorem t47 : KFX fa47 := k47 tok47
theorem tok48 : Facts Tryz.prog glX tb48 := ⟨t47, tok47⟩
theorem t48 : KFX fa48 := k48 tok48
theorem tok49 : Facts Tryz.prog glX tb49 := ⟨t48, tok48⟩
theorem t49 : KFX fa49 := k49 tok49
theorem tok50 : Facts Tryz.prog glX tb50 := ⟨t49, tok49⟩
theorem t50 : KFX fa50 := k50 tok50
theorem tok51 : Facts Tryz.prog glX tb51 := ⟨t50, tok50⟩
theorem t51 : KFX fa51 := k51 tok51
theorem tok52 : Facts Tryz.prog glX tb52 := ⟨t51, tok51⟩
theorem t52 : KFX fa52 := k52 tok52
theorem tok53 : Facts Tryz.prog glX tb53 := ⟨t52, tok52⟩
theorem t53 : KFX fa53 := k53 tok53
theorem tok54 : Facts Tryz.prog glX tb54 := ⟨t53, tok53⟩
theorem t54 : KFX fa54 := k54 tok54
theorem tok55 : Facts Tryz.prog glX tb55 := ⟨t54, tok54⟩
end Go.Proofs.YtjcmjadimdokkaaGreatDoor
