/- What calls of the examples return. -/
import Derived.Test.YtdecfbnmioagjaaGreatDoorXGF0
namespace Go.Proofs.YtdecfbnmioagjaaGreatDoor
open Go Go.Proofs.YtdecfbnmioagjaaGreatDoor.Clean
set_option linter.unusedVariables false
set_option maxRecDepth 100000
theorem k362 (h : Facts Tryz.prog glX tb362) : KFX fa362 := K0_ranQ (cfg := cfgAll Tryz.prog glX clX (knownI gsX tb362)) hmX (cfgAll_ok (knownI_ok h)) (fun _ _ => rfl) 3000 Tryz.func35 (by kernel_rfl)
theorem k363 (h : Facts Tryz.prog glX tb363) : KFX fa363 := K0_ranQ (cfg := cfgAll Tryz.prog glX clX (knownI gsX tb363)) hmX (cfgAll_ok (knownI_ok h)) (fun _ _ => rfl) 3000 Tryz.func7 (by kernel_rfl)
theorem k364 (h : Facts Tryz.prog glX tb364) : KFX fa364 := K0_ranQ (cfg := cfgAll Tryz.prog glX clX (knownI gsX tb364)) hmX (cfgAll_ok (knownI_ok h)) (fun _ _ => rfl) 3000 Tryz.func35 (by kernel_rfl)
theorem k365 (h : Facts Tryz.prog glX tb365) : KFX fa365 := K0_ranQ (cfg := cfgAll Tryz.prog glX clX (knownI gsX tb365)) hmX (cfgAll_ok (knownI_ok h)) (fun _ _ => rfl) 3000 Tryz.func7 (by kernel_rfl)
theorem k366 (h : Facts Tryz.prog glX tb366) : KFX fa366 := K0_ranQ (cfg := cfgAll Tryz.prog glX clX (knownI gsX tb366)) hmX (cfgAll_ok (knownI_ok h)) (fun _ _ => rfl) 3000 Tryz.func35 (by kernel_rfl)
theorem k367 (h : Facts Tryz.prog glX tb367) : KFX fa367 := K0_ranQ (cfg := cfgAll Tryz.prog glX clX (knownI gsX tb367)) hmX (cfgAll_ok (knownI_ok h)) (fun _ _ => rfl) 3000 Tryz.func7 (by kernel_rfl)
theorem k368 (h : Facts Tryz.prog glX tb368) : KFX fa368 := K0_ranQ (cfg := cfgAll Tryz.prog glX clX (knownI gsX tb368)) hmX (cfgAll_ok (knownI_ok h)) (fun _ _ => rfl) 3000 Tryz.func35 (by kernel_rfl)
theorem k369 (h : Facts Tryz.prog glX tb369) : KFX fa369 := K0_ranQ (cfg := cfgAll Tryz.prog glX clX (knownI gsX tb369)) hmX (cfgAll_ok (knownI_ok h)) (fun _ _ => rfl) 3000 Tryz.func7 (by kernel_rfl)
theorem k370 (h : Facts Tryz.prog glX tb370) : KFX fa370 := K0_ranQ (cfg := cfgAll Tryz.prog glX clX (knownI gsX tb370)) hmX (cfgAll_ok (knownI_ok h)) (fun _ _ => rfl) 3000 Tryz.func35 (by kernel_rfl)
theorem k371 (h : Facts Tryz.prog glX tb371) : KFX fa371 := K0_ranQ (cfg := cfgAll Tryz.prog glX clX (knownI gsX tb371)) hmX (cfgAll_ok (knownI_ok h)) (fun _ _ => rfl) 3000 Tryz.func7 (by kernel_rfl)
theorem k372 (h : Facts Tryz.prog glX tb372) : KFX fa372 := K0_ranQ (cfg := cfgAll Tryz.prog glX clX (knownI gsX tb372)) hmX (cfgAll_ok (knownI_ok h)) (fun _ _ => rfl) 3000 Tryz.func35 (by kernel_rfl)
theorem k373 (h : Facts Tryz.prog glX tb373) : KFX fa373 := K0_ranQ (cfg := cfgAll Tryz.prog glX clX (knownI gsX tb373)) hmX (cfgAll_ok (knownI_ok h)) (fun _ _ => rfl) 3000 Tryz.func7 (by kernel_rfl)
theorem k374 (h : Facts Tryz.prog glX tb374) : KFX fa374 := K0_ranQ (cfg := cfgAll Tryz.prog glX clX (knownI gsX tb374)) hmX (cfgAll_ok (knownI_ok h)) (fun _ _ => rfl) 3000 Tryz.func35 (by kernel_rfl)
theorem k375 (h : Facts Tryz.prog glX tb375) : KFX fa375 := K0_ranQ (cfg := cfgAll Tryz.prog glX clX (knownI gsX tb375)) hmX (cfgAll_ok (knownI_ok h)) (fun _ _ => rfl) 3000 Tryz.func7 (by kernel_rfl)
theorem k376 (h : Facts Tryz.prog glX tb376) : KFX fa376 := K0_ranQ (cfg := cfgAll Tryz.prog glX clX (knownI gsX tb376)) hmX (cfgAll_ok (knownI_ok h)) (fun _ _ => rfl) 3000 Tryz.func35 (by kernel_rfl)
theorem k377 (h : Facts Tryz.prog glX tb377) : KFX fa377 := K0_ranQ (cfg := cfgAll Tryz.prog glX clX (knownI gsX tb377)) hmX (cfgAll_ok (knownI_ok h)) (fun _ _ => rfl) 3000 Tryz.func7 (by kernel_rfl)
theorem k378 (h : Facts Tryz.prog glX tb378) : KFX fa378 := K0_ranQ (cfg := cfgAll Tryz.prog glX clX (knownI gsX tb378)) hmX (cfgAll_ok (knownI_ok h)) (fun _ _ => rfl) 3000 Tryz.func7 (by kernel_rfl)
theorem k379 (h : Facts Tryz.prog glX tb379) : KFX fa379 := K0_ranQ (cfg := cfgAll Tryz.prog glX clX (knownI gsX tb379)) hmX (cfgAll_ok (knownI_ok h)) (fun _ _ => rfl) 3000 Tryz.func35 (by kernel_rfl)
theorem k380 (h : Facts Tryz.prog glX tb380) : KFX fa380 := K0_ranQ (cfg := cfgAll Tryz.prog glX clX (knownI gsX tb380)) hmX (cfgAll_ok (knownI_ok h)) (fun _ _ => rfl) 3000 Tryz.func7 (by kernel_rfl)
theorem k381 (h : Facts Tryz.prog glX tb381) : KFX fa381 := K0_ranQ (cfg := cfgAll Tryz.prog glX clX (knownI gsX tb381)) hmX (cfgAll_ok (knownI_ok h)) (fun _ _ => rfl) 3000 Tryz.func35 (by kernel_rfl)
theorem k382 (h : Facts Tryz.prog glX tb382) : KFX fa382 := K0_ranQ (cfg := cfgAll Tryz.prog glX clX (knownI gsX tb382)) hmX (cfgAll_ok (knownI_ok h)) (fun _ _ => rfl) 3000 Tryz.func7 (by kernel_rfl)
theorem k383 (h : Facts Tryz.prog glX tb383) : KFX fa383 := K0_ranQ (cfg := cfgAll Tryz.prog glX clX (knownI gsX tb383)) hmX (cfgAll_ok (knownI_ok h)) (fun _ _ => rfl) 3000 Tryz.func35 (by kernel_rfl)
theorem k384 (h : Facts Tryz.prog glX tb384) : KFX fa384 := K0_ranQ (cfg := cfgAll Tryz.prog glX clX (knownI gsX tb384)) hmX (cfgAll_ok (knownI_ok h)) (fun _ _ => rfl) 3000 Tryz.func7 (by kernel_rfl)
theorem k385 (h : Facts Tryz.prog glX tb385) : KFX fa385 := K0_ranQ (cfg := cfgAll Tryz.prog glX clX (knownI gsX tb385)) hmX (cfgAll_ok (knownI_ok h)) (fun _ _ => rfl) 3000 Tryz.func35 (by kernel_rfl)
theorem k386 (h : Facts Tryz.prog glX tb386) : KFX fa386 := K0_ranQ (cfg := cfgAll Tryz.prog glX clX (knownI gsX tb386)) hmX (cfgAll_ok (knownI_ok h)) (fun _ _ => rfl) 3000 Tryz.func7 (by kernel_rfl)
theorem k387 (h : Facts Tryz.prog glX tb387) : KFX fa387 := K0_ranQ (cfg := cfgAll Tryz.prog glX clX (knownI gsX tb387)) hmX (cfgAll_ok (knownI_ok h)) (fun _ _ => rfl) 3000 Tryz.func35 (by kernel_rfl)
theorem k388 (h : Facts Tryz.prog glX tb388) : KFX fa388 := K0_ranQ (cfg := cfgAll Tryz.prog glX clX (knownI gsX tb388)) hmX (cfgAll_ok (knownI_ok h)) (fun _ _ => rfl) 3000 Tryz.func7 (by kernel_rfl)
theorem k389 (h : Facts Tryz.prog glX tb389) : KFX fa389 := K0_ranQ (cfg := cfgAll Tryz.prog glX clX (knownI gsX tb389)) hmX (cfgAll_ok (knownI_ok h)) (fun _ _ => rfl) 3000 Tryz.func35 (by kernel_rfl)
theorem k390 (h : Facts Tryz.prog glX tb390) : KFX fa390 := K0_ranQ (cfg := cfgAll Tryz.prog glX clX (knownI gsX tb390)) hmX (cfgAll_ok (knownI_ok h)) (fun _ _ => rfl) 3000 Tryz.func7 (by kernel_rfl)
end Go.Proofs.YtdecfbnmioagjaaGreatDoor
