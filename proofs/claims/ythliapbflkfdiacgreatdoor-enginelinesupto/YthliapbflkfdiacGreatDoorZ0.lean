/-
  Steps that the walks repeat: each theorem's last premise is proved by its rows where it is used.
-/
import Derived.KernelRfl
namespace Go.Proofs.YthliapbflkfdiacGreatDoor
structure Zh (B:Prop):Prop where
 out:B
variable {A B:Prop}
theorem Zm (h:B) (k:Zh B→A:=by intro zz;refine Qte ?_;exact zz.out):A:=k ⟨h⟩
theorem Zb (h:B) (k:Zh B→A:=by intro zz;refine Qs0 ?_;exact zz.out):A:=k ⟨h⟩
theorem Zbb (h:B) (k:Zh B→A:=by intro zz;refine Qm9 ?_;exact zz.out):A:=k ⟨h⟩
theorem Zg (h:B) (k:Zh B→A:=by intro zz;refine Qa (Qe8 (by conv=>lhs;whnf)) rfl ?_;exact zz.out):A:=k ⟨h⟩
theorem ZK (h:B) (k:Zh B→A:=by intro zz;refine Qa (QfS (by conv=>lhs;whnf)) rfl ?_;exact zz.out):A:=k ⟨h⟩
theorem Zw (h:B) (k:Zh B→A:=by intro zz;refine Qq7 rfl rfl ?_;exact zz.out):A:=k ⟨h⟩
theorem ZZ (h:B) (k:Zh B→A:=by intro zz;refine Qjv rfl ?_;exact zz.out):A:=k ⟨h⟩
theorem Za (h:B) (k:Zh B→A:=by intro zz;refine ⟨_,rfl,?_⟩;exact zz.out):A:=k ⟨h⟩
theorem Zy (h:B) (k:Zh B→A:=by intro zz;refine QlO rfl ?_;exact zz.out):A:=k ⟨h⟩
theorem Zu (h:B) (k:Zh B→A:=by intro zz;(first|refine Qa (Qf hS rfl rfl (by first|exact .head|exact .tail .head|exact .tail (.tail .head)|exact .tail (.tail (.tail .head))|exact .tail (.tail (.tail (.tail .head)))|exact .tail (.tail (.tail (.tail (.tail .head))))) (by repeat constructor)) rfl ?_|refine Qa (Qn rfl rfl (by first|assumption|exact hS.cell0 (by assumption)|exact Qx hS|exact Qy hS)) rfl ?_);exact zz.out):A:=k ⟨h⟩
theorem ZaJ (h:B) (k:Zh B→A:=by intro zz;refine Qrs ?_;exact zz.out):A:=k ⟨h⟩
theorem Zak (h:B) (k:Zh B→A:=by intro zz;refine QsZ rfl rfl rfl ?_;exact zz.out):A:=k ⟨h⟩
theorem Z9 (h:B) (k:Zh B→A:=by intro zz;refine Qa (Qi (off:=0) rfl rfl) rfl ?_;exact zz.out):A:=k ⟨h⟩
theorem Z0 (h:B) (k:Zh B→A:=by intro zz;(first|refine Qa (QiX rfl (by conv=>lhs;whnf)) rfl ?_|refine Qa (QiY rfl (by conv=>lhs;whnf)) rfl ?_);exact zz.out):A:=k ⟨h⟩
theorem Zbs (h:B) (k:Zh B→A:=by intro zz;refine Qpq ?_;exact zz.out):A:=k ⟨h⟩
theorem Z6 (h:B) (k:Zh B→A:=by intro zz;refine Qa (QaT rfl) rfl ?_;exact zz.out):A:=k ⟨h⟩
theorem Zn (h:B) (k:Zh B→A:=by intro zz;(first|refine Qa (Qbo rfl rfl) rfl ?_|refine Qa (QfQ rfl rfl (by first|assumption|omega)) rfl ?_|refine Qa (QeD rfl rfl (by omega)) rfl ?_|refine Qa (rfl) rfl ?_);exact zz.out):A:=k ⟨h⟩
theorem Zq (h:B) (k:Zh B→A:=by intro zz;(first|refine Qa (QmF rfl rfl (by omega)) rfl ?_|refine Qa (Qo0 rfl rfl (by omega)) rfl ?_|refine Qa (rfl) rfl ?_);exact zz.out):A:=k ⟨h⟩
theorem Ze (h:B) (k:Zh B→A:=by intro zz;refine Qd9 hS rfl (by conv=>lhs;whnf) rfl rfl (by first|exact .head|exact .tail .head|exact .tail (.tail .head)|exact .tail (.tail (.tail .head))|exact .tail (.tail (.tail (.tail .head)))|exact .tail (.tail (.tail (.tail (.tail .head))))) (by repeat constructor) (by first|exact .head|exact .tail .head|exact .tail (.tail .head)|exact .tail (.tail (.tail .head))|exact .tail (.tail (.tail (.tail .head)))|exact .tail (.tail (.tail (.tail (.tail .head))))) ?_;exact zz.out):A:=k ⟨h⟩
theorem ZO (h:B) (k:Zh B→A:=by intro zz;refine Qd rfl (fun _ hS=>Qe8 (by conv=>lhs;whnf)) rfl ?_;exact zz.out):A:=k ⟨h⟩
theorem Zi (h:B) (k:Zh B→A:=by intro zz;refine QbP (Qd3 (by kernel_rfl) (QtZ (by conv=>lhs;whnf) (by conv=>lhs;whnf))) rfl ?_;exact zz.out):A:=k ⟨h⟩
theorem ZL (h:B) (k:Zh B→A:=by intro zz;refine Qa (Qc6 rfl rfl rfl) rfl ?_;exact zz.out):A:=k ⟨h⟩
theorem Zz (h:B) (k:Zh B→A:=by intro zz;refine Qa (QmJ rfl rfl (by omega) (by omega)) rfl ?_;exact zz.out):A:=k ⟨h⟩
theorem Zj (h:B) (k:Zh B→A:=by intro zz;refine QbP (Qd3 (by kernel_rfl) (Qoz (by conv=>lhs;whnf))) rfl ?_;exact zz.out):A:=k ⟨h⟩
theorem Zef (h:B) (k:Zh B→A:=by intro zz;refine Qa (Qhx rfl rfl) rfl ?_;exact zz.out):A:=k ⟨h⟩
theorem ZU (h:B) (k:Zh B→A:=by intro zz;refine Qa (Qi (off:=1) rfl rfl) rfl ?_;exact zz.out):A:=k ⟨h⟩
theorem Zcj (h:B) (k:Zh B→A:=by intro zz;refine QuE hS rfl rfl ?_;exact zz.out):A:=k ⟨h⟩
theorem ZV (h:B) (k:Zh B→A:=by intro zz;refine Qa (rfl) rfl ?_;exact zz.out):A:=k ⟨h⟩
theorem ZaK (h:B) (k:Zh B→A:=by intro zz;refine Qd rfl (fun _ hS=>QaT rfl) rfl ?_;exact zz.out):A:=k ⟨h⟩
theorem Zap (h:B) (k:Zh B→A:=by intro zz;refine QlR ?_;exact zz.out):A:=k ⟨h⟩
theorem Zbt (h:B) (k:Zh B→A:=by intro zz;refine Qrt rfl ?_;exact zz.out):A:=k ⟨h⟩
theorem ZR (h:B) (k:Zh B→A:=by intro zz;(first|refine Qa (Qf hS rfl rfl (by first|exact .head|exact .tail .head|exact .tail (.tail .head)|exact .tail (.tail (.tail .head))|exact .tail (.tail (.tail (.tail .head)))|exact .tail (.tail (.tail (.tail (.tail .head))))) (by repeat constructor)) rfl ?_|refine Qa (Qn rfl rfl (by first|assumption|exact (hcc _ hS).1|exact (hcc _ hS).2.1|exact (hcc _ hS).2.2|exact hS.cell0 (by assumption)|exact Qx hS|exact Qy hS)) rfl ?_);exact zz.out):A:=k ⟨h⟩
theorem ZP (h:B) (k:Zh B→A:=by intro zz;refine Quy ?_;exact zz.out):A:=k ⟨h⟩
theorem Zbc (h:B) (k:Zh B→A:=by intro zz;refine Qa (Qi (off:=2) rfl rfl) rfl ?_;exact zz.out):A:=k ⟨h⟩
theorem ZA (h:B) (k:Zh B→A:=by intro zz;refine Qa (Qas (sz:=1) rfl rfl rfl rfl (by omega) (by omega)) rfl ?_;exact zz.out):A:=k ⟨h⟩
theorem ZF (h:B) (k:Zh B→A:=by intro zz;(first|refine Qa (Qhv rfl rfl (by omega)) rfl ?_|refine Qa (QiZ rfl rfl (by omega)) rfl ?_|refine Qa (rfl) rfl ?_);exact zz.out):A:=k ⟨h⟩
theorem Zaw (h:B) (k:Zh B→A:=by intro zz;refine Qd rfl (fun _ hS=>Qi (off:=0) rfl rfl) rfl ?_;exact zz.out):A:=k ⟨h⟩
theorem Zs (h:B) (k:Zh B→A:=by intro zz;refine Q8 hS rfl (by conv=>lhs;whnf) rfl rfl (by first|exact .head|exact .tail .head|exact .tail (.tail .head)|exact .tail (.tail (.tail .head))|exact .tail (.tail (.tail (.tail .head)))|exact .tail (.tail (.tail (.tail (.tail .head))))) (by repeat constructor) (by first|exact .head|exact .tail .head|exact .tail (.tail .head)|exact .tail (.tail (.tail .head))|exact .tail (.tail (.tail (.tail .head)))|exact .tail (.tail (.tail (.tail (.tail .head))))) ?_;exact zz.out):A:=k ⟨h⟩
theorem ZD (h:B) (k:Zh B→A:=by intro zz;(first|refine Qa (QdA rfl rfl) rfl ?_|refine Qa (QoX rfl rfl (by first|assumption|omega)) rfl ?_|refine Qa (QmC rfl rfl (by omega)) rfl ?_|refine Qa (rfl) rfl ?_);exact zz.out):A:=k ⟨h⟩
theorem Z1 (h:B) (k:Zh B→A:=by intro zz;(first|refine Qd rfl (fun _ hS=>Qf hS rfl rfl (by first|exact .head|exact .tail .head|exact .tail (.tail .head)|exact .tail (.tail (.tail .head))|exact .tail (.tail (.tail (.tail .head)))|exact .tail (.tail (.tail (.tail (.tail .head))))) (by repeat constructor)) rfl ?_|refine Qd rfl (fun _ hS=>Qn rfl rfl (by first|assumption|exact hS.cell0 (by assumption)|exact Qx hS|exact Qy hS)) rfl ?_);exact zz.out):A:=k ⟨h⟩
theorem Zt (h:B) (k:Zh B→A:=by intro zz;refine Quz rfl ?_;exact zz.out):A:=k ⟨h⟩
theorem Zck (h:B) (k:Zh B→A:=by intro zz;refine Qa (Qi (off:=3) rfl rfl) rfl ?_;exact zz.out):A:=k ⟨h⟩
theorem ZaL (h:B) (k:Zh B→A:=by intro zz;(first|refine Qa (Qi1 rfl rfl (by assumption)) rfl ?_|refine Qa (Qi2 rfl rfl (by assumption)) rfl ?_|refine Qa (Qhy rfl rfl) rfl ?_|refine Qa (rfl) rfl ?_);exact zz.out):A:=k ⟨h⟩
theorem ZbQ (h:B) (k:Zh B→A:=by intro zz;refine Qd rfl (fun _ hS=>QfS (by conv=>lhs;whnf)) rfl ?_;exact zz.out):A:=k ⟨h⟩
theorem Zaq (h:B) (k:Zh B→A:=by intro zz;refine QsQ rfl ?_;exact zz.out):A:=k ⟨h⟩
theorem Zaa (h:B) (k:Zh B→A:=by intro zz;refine Qa (Qas (sz:=3) rfl rfl rfl rfl (by omega) (by omega)) rfl ?_;exact zz.out):A:=k ⟨h⟩
theorem ZS (h:B) (k:Zh B→A:=by intro zz;refine QdJ (cs:=[_,_,_,_]) hS rfl rfl rfl ?_;exact zz.out):A:=k ⟨h⟩
theorem Zab (h:B) (k:Zh B→A:=by intro zz;(first|refine Qa (Qb (k:=2) hS rfl rfl rfl (by first|exact .head|exact .tail .head|exact .tail (.tail .head)|exact .tail (.tail (.tail .head))|exact .tail (.tail (.tail (.tail .head)))|exact .tail (.tail (.tail (.tail (.tail .head))))) (by repeat constructor)) rfl ?_|refine Qa (Qb (k:=2) hS rfl rfl rfl (by first|exact .head|exact .tail .head|exact .tail (.tail .head)|exact .tail (.tail (.tail .head))|exact .tail (.tail (.tail (.tail .head)))|exact .tail (.tail (.tail (.tail (.tail .head))))) (by assumption)) rfl ?_|refine Qa (QaH rfl rfl rfl (by first|assumption|exact hS.cell0 (by assumption)) (by first|assumption|exact hS.cell0 (by assumption))) rfl ?_);exact zz.out):A:=k ⟨h⟩
theorem Zad (h:B) (k:Zh B→A:=by intro zz;(first|refine Qa (Qhw rfl rfl (by omega)) rfl ?_|refine Qa (Qi0 rfl rfl (by omega)) rfl ?_|refine Qa (rfl) rfl ?_);exact zz.out):A:=k ⟨h⟩
theorem Zac (h:B) (k:Zh B→A:=by intro zz;refine QdJ (cs:=[_,_,_]) hS rfl rfl rfl ?_;exact zz.out):A:=k ⟨h⟩
theorem Zeg (h:B) (k:Zh B→A:=by intro zz;(first|refine Qd rfl (fun _ hS=>Qf hS rfl rfl (by first|exact .head|exact .tail .head|exact .tail (.tail .head)|exact .tail (.tail (.tail .head))|exact .tail (.tail (.tail (.tail .head)))|exact .tail (.tail (.tail (.tail (.tail .head))))) (by repeat constructor)) rfl ?_|refine Qd rfl (fun _ hS=>Qn rfl rfl (by first|assumption|exact (hcell _ hS).1|exact (hcell _ hS).2.1|exact (hcell _ hS).2.2|exact hS.cell0 (by assumption)|exact Qx hS|exact Qy hS)) rfl ?_);exact zz.out):A:=k ⟨h⟩
theorem Zal (h:B) (k:Zh B→A:=by intro zz;refine QbP (Qd3 (by kernel_rfl) (QtY (by conv=>lhs;whnf) (by conv=>lhs;whnf) (by conv=>lhs;whnf))) rfl ?_;exact zz.out):A:=k ⟨h⟩
theorem ZaX (h:B) (k:Zh B→A:=by intro zz;refine QdJ (cs:=[_,_]) hS rfl rfl rfl ?_;exact zz.out):A:=k ⟨h⟩
theorem ZdJ (h:B) (k:Zh B→A:=by intro zz;refine Qd rfl (fun _ hS=>Qi (off:=1) rfl rfl) rfl ?_;exact zz.out):A:=k ⟨h⟩
theorem Zcl (h:B) (k:Zh B→A:=by intro zz;refine Qq6 rfl rfl ?_;exact zz.out):A:=k ⟨h⟩
theorem ZbR (h:B) (k:Zh B→A:=by intro zz;(first|refine Qa (Qqo rfl rfl (by omega) (by omega)) rfl ?_|refine Qa (QiV rfl rfl) rfl ?_);exact zz.out):A:=k ⟨h⟩
theorem ZdK (h:B) (k:Zh B→A:=by intro zz;refine Qd rfl (fun _ hS=>Qi (off:=2) rfl rfl) rfl ?_;exact zz.out):A:=k ⟨h⟩
theorem Zam (h:B) (k:Zh B→A:=by intro zz;refine QaN (cells:=[_]) hS (.cons (by conv=>lhs;whnf) .nil) rfl rfl ?_;exact zz.out):A:=k ⟨h⟩
theorem ZdL (h:B) (k:Zh B→A:=by intro zz;(first|refine Qa (Qf hS rfl rfl (by first|exact .head|exact .tail .head|exact .tail (.tail .head)|exact .tail (.tail (.tail .head))|exact .tail (.tail (.tail (.tail .head)))|exact .tail (.tail (.tail (.tail (.tail .head))))) (by repeat constructor)) rfl ?_|refine Qa (Qn rfl rfl (by first|assumption|exact hpa _ hS|exact hS.cell0 (by assumption)|exact Qx hS|exact Qy hS)) rfl ?_);exact zz.out):A:=k ⟨h⟩
theorem ZaY (h:B) (k:Zh B→A:=by intro zz;refine Qd rfl (fun _ hS=>Qas (sz:=3) rfl rfl rfl rfl (by omega) (by omega)) rfl ?_;exact zz.out):A:=k ⟨h⟩
theorem Zbu (h:B) (k:Zh B→A:=by intro zz;refine Qa (Qas (sz:=4) rfl rfl rfl rfl (by omega) (by omega)) rfl ?_;exact zz.out):A:=k ⟨h⟩
theorem ZdM (h:B) (k:Zh B→A:=by intro zz;refine Qc Tryz.func186 rfl (by conv=>lhs;whnf) ?_;exact zz.out):A:=k ⟨h⟩
theorem ZaD (h:B) (k:Zh B→A:=by intro zz;refine Qs rfl (fun _ hS=>Qe8 (by conv=>lhs;whnf)) rfl ?_;exact zz.out):A:=k ⟨h⟩
theorem ZaM (h:B) (k:Zh B→A:=by intro zz;refine QfY (by first|exact hS|exact hS.drop|exact hS.drop.drop|exact hS.drop.drop.drop|exact hS.unlearn|exact hS.unlearn.drop|exact hS.unlearn.drop.drop|exact hS.forget hF9|exact hS.drop.forget hF9) ?_;exact zz.out):A:=k ⟨h⟩
theorem ZaZ (h:B) (k:Zh B→A:=by intro zz;refine Qa (QmH rfl rfl rfl) rfl ?_;exact zz.out):A:=k ⟨h⟩
theorem Za0 (h:B) (k:Zh B→A:=by intro zz;refine Qd rfl (fun _ hS=>Qc6 rfl rfl rfl) rfl ?_;exact zz.out):A:=k ⟨h⟩
theorem Za1 (h:B) (k:Zh B→A:=by intro zz;(first|refine Qa (Qb (k:=4) hS rfl rfl rfl (by first|exact .head|exact .tail .head|exact .tail (.tail .head)|exact .tail (.tail (.tail .head))|exact .tail (.tail (.tail (.tail .head)))|exact .tail (.tail (.tail (.tail (.tail .head))))) (by repeat constructor)) rfl ?_|refine Qa (Qb (k:=4) hS rfl rfl rfl (by first|exact .head|exact .tail .head|exact .tail (.tail .head)|exact .tail (.tail (.tail .head))|exact .tail (.tail (.tail (.tail .head)))|exact .tail (.tail (.tail (.tail (.tail .head))))) (by assumption)) rfl ?_|refine Qa (Qa3 rfl rfl rfl (by first|assumption|exact hS.cell0 (by assumption)) (by first|assumption|exact hS.cell0 (by assumption)) (by first|assumption|exact hS.cell0 (by assumption)) (by first|assumption|exact hS.cell0 (by assumption))) rfl ?_);exact zz.out):A:=k ⟨h⟩
theorem Za2 (h:B) (k:Zh B→A:=by intro zz;refine QaV (by first|exact hS|exact hS.drop|exact hS.drop.drop|exact hS.drop.drop.drop|exact hS.unlearn|exact hS.unlearn.drop|exact hS.unlearn.drop.drop|exact hS.forget (by assumption)|exact hS.drop.forget (by assumption)) ?_;exact zz.out):A:=k ⟨h⟩
theorem ZcS (h:B) (k:Zh B→A:=by intro zz;(first|refine Qa (Qb (k:=2) hS rfl rfl rfl (by first|exact .head|exact .tail .head|exact .tail (.tail .head)|exact .tail (.tail (.tail .head))|exact .tail (.tail (.tail (.tail .head)))|exact .tail (.tail (.tail (.tail (.tail .head))))) (by repeat constructor)) rfl ?_|refine Qa (Qb (k:=2) hS rfl rfl rfl (by first|exact .head|exact .tail .head|exact .tail (.tail .head)|exact .tail (.tail (.tail .head))|exact .tail (.tail (.tail (.tail .head)))|exact .tail (.tail (.tail (.tail (.tail .head))))) (by assumption)) rfl ?_|refine Qa (QaH rfl rfl rfl (by first|assumption|exact hct _ hS|exact hS.cell0 (by assumption)) (by first|assumption|exact hct _ hS|exact hS.cell0 (by assumption))) rfl ?_);exact zz.out):A:=k ⟨h⟩
theorem ZcT (h:B) (k:Zh B→A:=by intro zz;(first|refine Qa (Qf hS rfl rfl (by first|exact .head|exact .tail .head|exact .tail (.tail .head)|exact .tail (.tail (.tail .head))|exact .tail (.tail (.tail (.tail .head)))|exact .tail (.tail (.tail (.tail (.tail .head))))) (by repeat constructor)) rfl ?_|refine Qa (Qn rfl rfl (by first|assumption|exact hwc _ hS.ext|exact hS.cell0 (by assumption)|exact Qx hS|exact Qy hS)) rfl ?_);exact zz.out):A:=k ⟨h⟩
theorem ZdN (h:B) (k:Zh B→A:=by intro zz;(first|refine Qa (QmG rfl rfl (by omega)) rfl ?_|refine Qa (Qo1 rfl rfl (by omega)) rfl ?_|refine Qa (rfl) rfl ?_);exact zz.out):A:=k ⟨h⟩
theorem Ze5 (h:B) (k:Zh B→A:=by intro zz;(first|refine Qa (Qb (k:=3) hS rfl rfl rfl (by first|exact .head|exact .tail .head|exact .tail (.tail .head)|exact .tail (.tail (.tail .head))|exact .tail (.tail (.tail (.tail .head)))|exact .tail (.tail (.tail (.tail (.tail .head))))) (by repeat constructor)) rfl ?_|refine Qa (Qb (k:=3) hS rfl rfl rfl (by first|exact .head|exact .tail .head|exact .tail (.tail .head)|exact .tail (.tail (.tail .head))|exact .tail (.tail (.tail (.tail .head)))|exact .tail (.tail (.tail (.tail (.tail .head))))) (by assumption)) rfl ?_|refine Qa (Qa4 rfl rfl rfl (by first|assumption|exact (hcc _ hS).1|exact (hcc _ hS).2.1|exact (hcc _ hS).2.2|exact hS.cell0 (by assumption)) (by first|assumption|exact (hcc _ hS).1|exact (hcc _ hS).2.1|exact (hcc _ hS).2.2|exact hS.cell0 (by assumption)) (by first|assumption|exact (hcc _ hS).1|exact (hcc _ hS).2.1|exact (hcc _ hS).2.2|exact hS.cell0 (by assumption))) rfl ?_);exact zz.out):A:=k ⟨h⟩
theorem Zbd (h:B) (k:Zh B→A:=by intro zz;(first|refine Qa (Qf hS rfl rfl (by first|exact .head|exact .tail .head|exact .tail (.tail .head)|exact .tail (.tail (.tail .head))|exact .tail (.tail (.tail (.tail .head)))|exact .tail (.tail (.tail (.tail (.tail .head))))) (by repeat constructor)) rfl ?_|refine Qa (Qn rfl rfl (by first|assumption|exact hct _ hS|exact hS.cell0 (by assumption)|exact Qx hS|exact Qy hS)) rfl ?_);exact zz.out):A:=k ⟨h⟩
theorem Zbe (h:B) (k:Zh B→A:=by intro zz;refine Qs rfl (fun _ hS=>Qhx rfl rfl) rfl ?_;exact zz.out):A:=k ⟨h⟩
theorem Zbf (h:B) (k:Zh B→A:=by intro zz;refine QsR rfl rfl rfl rfl ?_;exact zz.out):A:=k ⟨h⟩
theorem Zbv (h:B) (k:Zh B→A:=by intro zz;refine Qc Tryz.func113 rfl (by conv=>lhs;whnf) ?_;exact zz.out):A:=k ⟨h⟩
theorem Zbw (h:B) (k:Zh B→A:=by intro zz;(first|refine Qa (QoY rfl rfl (by assumption)) rfl ?_|refine Qa (QoZ rfl rfl (by assumption)) rfl ?_|refine Qa (QmD rfl rfl) rfl ?_|refine Qa (rfl) rfl ?_);exact zz.out):A:=k ⟨h⟩
theorem ZgL (h:B) (k:Zh B→A:=by intro zz;refine Qa (QK (cells:=[_,_,_,_]) .nil rfl) rfl ?_;exact zz.out):A:=k ⟨h⟩
theorem ZgM (h:B) (k:Zh B→A:=by intro zz;refine QdT (sz:=4) hS Tryz.func72 rfl rfl rfl rfl (by first|exact .head|exact .tail .head|exact .tail (.tail .head)|exact .tail (.tail (.tail .head))|exact .tail (.tail (.tail (.tail .head)))|exact .tail (.tail (.tail (.tail (.tail .head))))) (by repeat constructor) ?_;exact zz.out):A:=k ⟨h⟩
theorem Zbx (h:B) (k:Zh B→A:=by intro zz;refine Qc Tryz.func38 rfl (by conv=>lhs;whnf) ?_;exact zz.out):A:=k ⟨h⟩
theorem Zby (h:B) (k:Zh B→A:=by intro zz;(first|refine Qa (Qb (k:=2) hS rfl rfl rfl (by first|exact .head|exact .tail .head|exact .tail (.tail .head)|exact .tail (.tail (.tail .head))|exact .tail (.tail (.tail (.tail .head)))|exact .tail (.tail (.tail (.tail (.tail .head))))) (by repeat constructor)) rfl ?_|refine Qa (Qb (k:=2) hS rfl rfl rfl (by first|exact .head|exact .tail .head|exact .tail (.tail .head)|exact .tail (.tail (.tail .head))|exact .tail (.tail (.tail (.tail .head)))|exact .tail (.tail (.tail (.tail (.tail .head))))) (by assumption)) rfl ?_|refine Qa (QaH rfl rfl rfl (by first|assumption|exact (hcc _ hS).1|exact (hcc _ hS).2.1|exact (hcc _ hS).2.2|exact hS.cell0 (by assumption)) (by first|assumption|exact (hcc _ hS).1|exact (hcc _ hS).2.1|exact (hcc _ hS).2.2|exact hS.cell0 (by assumption))) rfl ?_);exact zz.out):A:=k ⟨h⟩
theorem ZbS (h:B) (k:Zh B→A:=by intro zz;refine Qa (hop _ _ hr) hd ?_;exact zz.out):A:=k ⟨h⟩
theorem Ze6 (h:B) (k:Zh B→A:=by intro zz;refine Qa (QjR rfl rfl rfl (by omega) (by first|rfl|assumption)) rfl ?_;exact zz.out):A:=k ⟨h⟩
theorem ZgN (h:B) (k:Zh B→A:=by intro zz;refine Qa (QK (cells:=[_,_,_,_]) (.cons (by conv=>lhs;whnf) (.cons (by conv=>lhs;whnf) .nil)) rfl) rfl ?_;exact zz.out):A:=k ⟨h⟩
theorem Ze7 (h:B) (k:Zh B→A:=by intro zz;refine Qd rfl (fun _ hS=>Qi (off:=3) rfl rfl) rfl ?_;exact zz.out):A:=k ⟨h⟩
theorem Ze8 (h:B) (k:Zh B→A:=by intro zz;refine Qa (QsH rfl rfl (by assumption)) rfl ?_;exact zz.out):A:=k ⟨h⟩
theorem ZbT (h:B) (k:Zh B→A:=by intro zz;refine QfY (by first|exact hS.bare1|exact hS.drop.bare1|exact hS.drop.drop.bare1|exact hS.drop.drop.drop.bare1) ?_;exact zz.out):A:=k ⟨h⟩
theorem ZbU (h:B) (k:Zh B→A:=by intro zz;refine Qs rfl (fun _ hS=>QfS (by conv=>lhs;whnf)) rfl ?_;exact zz.out):A:=k ⟨h⟩
theorem ZbV (h:B) (k:Zh B→A:=by intro zz;(first|refine Qa (Qf hS rfl rfl (by first|exact .head|exact .tail .head|exact .tail (.tail .head)|exact .tail (.tail (.tail .head))|exact .tail (.tail (.tail (.tail .head)))|exact .tail (.tail (.tail (.tail (.tail .head))))) (by repeat constructor)) rfl ?_|refine Qa (Qn rfl rfl (by first|assumption|exact hwl _ hS|exact (hcc _ hS).1|exact (hcc _ hS).2.1|exact (hcc _ hS).2.2|exact hS.cell0 (by assumption)|exact Qx hS|exact Qy hS)) rfl ?_);exact zz.out):A:=k ⟨h⟩
theorem ZbW (h:B) (k:Zh B→A:=by intro zz;refine QfY (by first|exact hS|exact hS.drop|exact hS.drop.drop|exact hS.drop.drop.drop|exact hS.unlearn|exact hS.unlearn.drop|exact hS.unlearn.drop.drop|exact hS.forget hF8|exact hS.drop.forget hF8|exact hS.forget (fun φ h=>hF9 φ (hF8 φ h))|exact hS.drop.forget (fun φ h=>hF9 φ (hF8 φ h))) ?_;exact zz.out):A:=k ⟨h⟩
theorem ZbX (h:B) (k:Zh B→A:=by intro zz;refine Qs rfl (fun _ hS=>QK (cells:=[_,_]) (.cons (by conv=>lhs;whnf) (.cons (by conv=>lhs;whnf) .nil)) rfl) rfl ?_;exact zz.out):A:=k ⟨h⟩
theorem ZbY (h:B) (k:Zh B→A:=by intro zz;refine QaV (by first|exact hS.bare1|exact hS.drop.bare1|exact hS.drop.drop.bare1) ?_;exact zz.out):A:=k ⟨h⟩
theorem ZbZ (h:B) (k:Zh B→A:=by intro zz;(first|refine Qa (Qb (k:=4) hS rfl rfl rfl (by first|exact .head|exact .tail .head|exact .tail (.tail .head)|exact .tail (.tail (.tail .head))|exact .tail (.tail (.tail (.tail .head)))|exact .tail (.tail (.tail (.tail (.tail .head))))) (by repeat constructor)) rfl ?_|refine Qa (Qb (k:=4) hS rfl rfl rfl (by first|exact .head|exact .tail .head|exact .tail (.tail .head)|exact .tail (.tail (.tail .head))|exact .tail (.tail (.tail (.tail .head)))|exact .tail (.tail (.tail (.tail (.tail .head))))) (by assumption)) rfl ?_|refine Qa (Qa3 rfl rfl rfl (by first|assumption|exact (hcc _ hS).1|exact (hcc _ hS).2.1|exact (hcc _ hS).2.2.1|exact (hcc _ hS).2.2.2|exact hS.cell0 (by assumption)) (by first|assumption|exact (hcc _ hS).1|exact (hcc _ hS).2.1|exact (hcc _ hS).2.2.1|exact (hcc _ hS).2.2.2|exact hS.cell0 (by assumption)) (by first|assumption|exact (hcc _ hS).1|exact (hcc _ hS).2.1|exact (hcc _ hS).2.2.1|exact (hcc _ hS).2.2.2|exact hS.cell0 (by assumption)) (by first|assumption|exact (hcc _ hS).1|exact (hcc _ hS).2.1|exact (hcc _ hS).2.2.1|exact (hcc _ hS).2.2.2|exact hS.cell0 (by assumption))) rfl ?_);exact zz.out):A:=k ⟨h⟩
theorem Zb0 (h:B) (k:Zh B→A:=by intro zz;refine Qa (Qi (off:=9) rfl rfl) rfl ?_;exact zz.out):A:=k ⟨h⟩
theorem Zcm (h:B) (k:Zh B→A:=by intro zz;refine Calls.mono (QcB s 1 _ hS) ?_;exact zz.out):A:=k ⟨h⟩
theorem ZfE (h:B) (k:Zh B→A:=by intro zz;refine Qc Tryz.func19 rfl (by conv=>lhs;whnf) ?_;exact zz.out):A:=k ⟨h⟩
theorem Zcn (h:B) (k:Zh B→A:=by intro zz;refine Qs rfl (fun _ hS=>Qi (off:=0) rfl rfl) rfl ?_;exact zz.out):A:=k ⟨h⟩
theorem ZgO (h:B) (k:Zh B→A:=by intro zz;refine Qf4 (sz:=2) hS Tryz.func155 rfl rfl (by conv=>lhs;whnf) (by conv=>lhs;whnf) rfl rfl (by first|exact .head|exact .tail .head|exact .tail (.tail .head)|exact .tail (.tail (.tail .head))|exact .tail (.tail (.tail (.tail .head)))|exact .tail (.tail (.tail (.tail (.tail .head))))) (by repeat constructor) ?_;exact zz.out):A:=k ⟨h⟩
theorem ZgP (h:B) (k:Zh B→A:=by intro zz;refine QcW (sz:=4) hS Tryz.func143 rfl rfl (by conv=>lhs;whnf) rfl rfl (by first|exact .head|exact .tail .head|exact .tail (.tail .head)|exact .tail (.tail (.tail .head))|exact .tail (.tail (.tail (.tail .head)))|exact .tail (.tail (.tail (.tail (.tail .head))))) (by repeat constructor) ?_;exact zz.out):A:=k ⟨h⟩
theorem Zco (h:B) (k:Zh B→A:=by intro zz;(first|refine Qa (Qf hS rfl rfl (by first|exact .head|exact .tail .head|exact .tail (.tail .head)|exact .tail (.tail (.tail .head))|exact .tail (.tail (.tail (.tail .head)))|exact .tail (.tail (.tail (.tail (.tail .head))))) (by repeat constructor)) rfl ?_|refine Qa (Qn rfl rfl (by first|assumption|exact (hll _ hS (by repeat constructor)).1|exact (hll _ hS (by repeat constructor)).2.1|exact (hll _ hS (by repeat constructor)).2.2|exact hS.cell0 (by assumption)|exact Qx hS|exact Qy hS)) rfl ?_);exact zz.out):A:=k ⟨h⟩
theorem ZfF (h:B) (k:Zh B→A:=by intro zz;refine Qw (St _ _ _ _) 10 ((0,true)::(1,true)::(2,true)::(3,true)::(4,true)::(5,true)::(6,true)::(7,true)::(8,true)::(9,true)::[]) (by kernel_rfl) (by kernel_rfl) (hS.drew) ?_;exact zz.out):A:=k ⟨h⟩
theorem Zcp (h:B) (k:Zh B→A:=by intro zz;(first|refine Qa (Qf hS rfl rfl (by first|exact .head|exact .tail .head|exact .tail (.tail .head)|exact .tail (.tail (.tail .head))|exact .tail (.tail (.tail (.tail .head)))|exact .tail (.tail (.tail (.tail (.tail .head))))) (by repeat constructor)) rfl ?_|refine Qa (Qn rfl rfl (by first|assumption|exact hsv _ hS (.tail _ (.head _))|exact hll _ hS (by simp [hgl])|exact hS.cell0 (by assumption)|exact Qx hS|exact Qy hS)) rfl ?_);exact zz.out):A:=k ⟨h⟩
theorem ZfG (h:B) (k:Zh B→A:=by intro zz;refine Qa (Qi (off:=8) rfl rfl) rfl ?_;exact zz.out):A:=k ⟨h⟩
theorem ZgQ (h:B) (k:Zh B→A:=by intro zz;refine Qc Tryz.func69 rfl (by conv=>lhs;whnf) ?_;exact zz.out):A:=k ⟨h⟩
theorem ZgR (h:B) (k:Zh B→A:=by intro zz;(first|refine Qa (Quq rfl (by omega) (by omega)) rfl ?_|refine Qa (rfl) rfl ?_);exact zz.out):A:=k ⟨h⟩
theorem ZcU (h:B) (k:Zh B→A:=by intro zz;refine Qd rfl (fun _ hS=>QfR rfl rfl (by first|omega|(simp;done)|(simp;omega))) rfl ?_;exact zz.out):A:=k ⟨h⟩
theorem ZgS (h:B) (k:Zh B→A:=by intro zz;refine Calls.mono (Qoj h A B c d _ (hS.und hH)) ?_;exact zz.out):A:=k ⟨h⟩
theorem ZcV (h:B) (k:Zh B→A:=by intro zz;(first|refine Qa (Qf hS rfl rfl (by first|exact .head|exact .tail .head|exact .tail (.tail .head)|exact .tail (.tail (.tail .head))|exact .tail (.tail (.tail (.tail .head)))|exact .tail (.tail (.tail (.tail (.tail .head))))) (by repeat constructor)) rfl ?_|refine Qa (Qn rfl rfl (by first|assumption|exact (hcc _ hS).1|exact (hcc _ hS).2.1|exact (hcc _ hS).2.2|exact hcb _ hS|exact hcs _ hS|exact hS.cell0 (by assumption)|exact Qx hS|exact Qy hS)) rfl ?_);exact zz.out):A:=k ⟨h⟩
theorem ZcW (h:B) (k:Zh B→A:=by intro zz;refine QaN (cells:=[_,_,_]) hS (.cons (by conv=>lhs;whnf) .nil) rfl rfl ?_;exact zz.out):A:=k ⟨h⟩
theorem ZcX (h:B) (k:Zh B→A:=by intro zz;refine Qc Tryz.func196 rfl (by conv=>lhs;whnf) ?_;exact zz.out):A:=k ⟨h⟩
theorem ZcY (h:B) (k:Zh B→A:=by intro zz;refine Q8 hS rfl (by conv=>lhs;whnf) rfl rfl (.tail .head) (by rw [Nat.zero_add,Nat.mul_one];exact hput) (.tail .head) ?_;exact zz.out):A:=k ⟨h⟩
theorem ZcZ (h:B) (k:Zh B→A:=by intro zz;(first|refine Qa (Qf hS rfl rfl (by first|exact .head|exact .tail .head|exact .tail (.tail .head)|exact .tail (.tail (.tail .head))|exact .tail (.tail (.tail (.tail .head)))|exact .tail (.tail (.tail (.tail (.tail .head))))) (by repeat constructor)) rfl ?_|refine Qa (Qn rfl rfl (by first|assumption|exact (hcc _ hS).1|exact (hcc _ hS).2.1|exact (hcc _ hS).2.2.1|exact (hcc _ hS).2.2.2|exact hS.cell0 (by assumption)|exact Qx hS|exact Qy hS)) rfl ?_);exact zz.out):A:=k ⟨h⟩
theorem Zc0 (h:B) (k:Zh B→A:=by intro zz;refine Qd rfl (fun _ hS=>Qi (off:=9) rfl rfl) rfl ?_;exact zz.out):A:=k ⟨h⟩
theorem ZgT (h:B) (k:Zh B→A:=by intro zz;(first|refine Qa (Qf hS rfl rfl (by first|exact .head|exact .tail .head|exact .tail (.tail .head)|exact .tail (.tail (.tail .head))|exact .tail (.tail (.tail (.tail .head)))|exact .tail (.tail (.tail (.tail (.tail .head))))) (by repeat constructor)) rfl ?_|refine Qa (Qn rfl rfl (by first|assumption|exact (hcell _ hS).1|exact (hcell _ hS).2.1|exact (hcell _ hS).2.2|exact hS.cell0 (by assumption)|exact Qx hS|exact Qy hS)) rfl ?_);exact zz.out):A:=k ⟨h⟩
theorem Zc1 (h:B) (k:Zh B→A:=by intro zz;refine Qc Tryz.func58 rfl (by conv=>lhs;whnf) ?_;exact zz.out):A:=k ⟨h⟩
theorem ZgU (h:B) (k:Zh B→A:=by intro zz;refine Qa8 Tryz.func12 rfl (by conv=>lhs;whnf) (by conv=>lhs;whnf) ?_;exact zz.out):A:=k ⟨h⟩
theorem ZdO (h:B) (k:Zh B→A:=by intro zz;refine QaN (cells:=[_,_,_,_]) hS (.cons (by conv=>lhs;whnf) .nil) rfl rfl ?_;exact zz.out):A:=k ⟨h⟩
theorem ZdP (h:B) (k:Zh B→A:=by intro zz;refine Qa (Qi (off:=5) rfl rfl) rfl ?_;exact zz.out):A:=k ⟨h⟩
theorem ZdQ (h:B) (k:Zh B→A:=by intro zz;(first|refine Qa (Qb (k:=6) hS rfl rfl rfl (by first|exact .head|exact .tail .head|exact .tail (.tail .head)|exact .tail (.tail (.tail .head))|exact .tail (.tail (.tail (.tail .head)))|exact .tail (.tail (.tail (.tail (.tail .head))))) (by repeat constructor)) rfl ?_|refine Qa (Qb (k:=6) hS rfl rfl rfl (by first|exact .head|exact .tail .head|exact .tail (.tail .head)|exact .tail (.tail (.tail .head))|exact .tail (.tail (.tail (.tail .head)))|exact .tail (.tail (.tail (.tail (.tail .head))))) (by assumption)) rfl ?_|refine Qa (Qk3 rfl rfl rfl (by first|assumption|exact hS.cell0 (by assumption)) (by first|assumption|exact hS.cell0 (by assumption)) (by first|assumption|exact hS.cell0 (by assumption)) (by first|assumption|exact hS.cell0 (by assumption)) (by first|assumption|exact hS.cell0 (by assumption)) (by first|assumption|exact hS.cell0 (by assumption))) rfl ?_);exact zz.out):A:=k ⟨h⟩
theorem ZdR (h:B) (k:Zh B→A:=by intro zz;refine Qc Tryz.func119 rfl (by conv=>lhs;whnf) ?_;exact zz.out):A:=k ⟨h⟩
theorem ZdS (h:B) (k:Zh B→A:=by intro zz;refine Qe Tryz.func166 rfl Tryz.ntmps166 rfl ?_;exact zz.out):A:=k ⟨h⟩
theorem ZdT (h:B) (k:Zh B→A:=by intro zz;refine Qc Tryz.func166 rfl (by conv=>lhs;whnf) ?_;exact zz.out):A:=k ⟨h⟩
theorem ZdU (h:B) (k:Zh B→A:=by intro zz;(first|refine Qd rfl (fun _ hS=>Qbo rfl rfl) rfl ?_|refine Qd rfl (fun _ hS=>QfQ rfl rfl (by first|assumption|omega)) rfl ?_|refine Qd rfl (fun _ hS=>QeD rfl rfl (by omega)) rfl ?_|refine Qd rfl (fun _ hS=>rfl) rfl ?_);exact zz.out):A:=k ⟨h⟩
theorem ZdV (h:B) (k:Zh B→A:=by intro zz;refine QbP (Qk5 rfl (by kernel_rfl) (Qoz (by conv=>lhs;whnf))) rfl ?_;exact zz.out):A:=k ⟨h⟩
theorem ZdW (h:B) (k:Zh B→A:=by intro zz;(first|refine Qa (Qf hS rfl rfl (by first|exact .head|exact .tail .head|exact .tail (.tail .head)|exact .tail (.tail (.tail .head))|exact .tail (.tail (.tail (.tail .head)))|exact .tail (.tail (.tail (.tail (.tail .head))))) (by repeat constructor)) rfl ?_|refine Qa (Qn rfl rfl (by first|assumption|exact hct _ hS|exact hpa _ hS|exact hpb _ hS|exact hS.cell0 (by assumption)|exact Qx hS|exact Qy hS)) rfl ?_);exact zz.out):A:=k ⟨h⟩
theorem ZdX (h:B) (k:Zh B→A:=by intro zz;(first|refine Qa (Qf hS rfl rfl (by first|exact .head|exact .tail .head|exact .tail (.tail .head)|exact .tail (.tail (.tail .head))|exact .tail (.tail (.tail (.tail .head)))|exact .tail (.tail (.tail (.tail (.tail .head))))) (by repeat constructor)) rfl ?_|refine Qa (Qn rfl rfl (by first|assumption|exact hcc _ hS|exact hcb _ hS|exact hcs _ hS|exact hS.cell0 (by assumption)|exact Qx hS|exact Qy hS)) rfl ?_);exact zz.out):A:=k ⟨h⟩
theorem ZdY (h:B) (k:Zh B→A:=by intro zz;refine QcW (sz:=2) hS Tryz.func190 rfl rfl (by conv=>lhs;whnf) rfl rfl (by first|exact .head|exact .tail .head|exact .tail (.tail .head)|exact .tail (.tail (.tail .head))|exact .tail (.tail (.tail (.tail .head)))|exact .tail (.tail (.tail (.tail (.tail .head))))) (by repeat constructor) ?_;exact zz.out):A:=k ⟨h⟩
theorem ZdZ (h:B) (k:Zh B→A:=by intro zz;(first|refine Qs rfl (fun _ hS=>Qf hS rfl rfl (by first|exact .head|exact .tail .head|exact .tail (.tail .head)|exact .tail (.tail (.tail .head))|exact .tail (.tail (.tail (.tail .head)))|exact .tail (.tail (.tail (.tail (.tail .head))))) (by repeat constructor)) rfl ?_|refine Qs rfl (fun _ hS=>Qn rfl rfl (by first|assumption|exact hS.cell0 (by assumption)|exact Qx hS|exact Qy hS)) rfl ?_);exact zz.out):A:=k ⟨h⟩
theorem Zd0 (h:B) (k:Zh B→A:=by intro zz;refine QaV (by first|exact hS.bare2|exact hS.drop.bare2|exact hS.drop.drop.bare2) ?_;exact zz.out):A:=k ⟨h⟩
theorem Zd1 (h:B) (k:Zh B→A:=by intro zz;(first|refine Qd rfl (fun _ hS=>Qb (k:=3) hS rfl rfl rfl (by first|exact .head|exact .tail .head|exact .tail (.tail .head)|exact .tail (.tail (.tail .head))|exact .tail (.tail (.tail (.tail .head)))|exact .tail (.tail (.tail (.tail (.tail .head))))) (by repeat constructor)) rfl ?_|refine Qd rfl (fun _ hS=>Qb (k:=3) hS rfl rfl rfl (by first|exact .head|exact .tail .head|exact .tail (.tail .head)|exact .tail (.tail (.tail .head))|exact .tail (.tail (.tail (.tail .head)))|exact .tail (.tail (.tail (.tail (.tail .head))))) (by assumption)) rfl ?_|refine Qd rfl (fun _ hS=>Qa4 rfl rfl rfl (by first|assumption|exact (hcell _ hS).1|exact (hcell _ hS).2.1|exact (hcell _ hS).2.2|exact hS.cell0 (by assumption)) (by first|assumption|exact (hcell _ hS).1|exact (hcell _ hS).2.1|exact (hcell _ hS).2.2|exact hS.cell0 (by assumption)) (by first|assumption|exact (hcell _ hS).1|exact (hcell _ hS).2.1|exact (hcell _ hS).2.2|exact hS.cell0 (by assumption))) rfl ?_);exact zz.out):A:=k ⟨h⟩
theorem Zd2 (h:B) (k:Zh B→A:=by intro zz;refine Qd rfl (fun _ hS=>Qi (off:=7) rfl rfl) rfl ?_;exact zz.out):A:=k ⟨h⟩
theorem Zd3 (h:B) (k:Zh B→A:=by intro zz;refine Qa (Qi (off:=7) rfl rfl) rfl ?_;exact zz.out):A:=k ⟨h⟩
theorem Zd4 (h:B) (k:Zh B→A:=by intro zz;(first|refine Qa (Qf hS rfl rfl (by first|exact .head|exact .tail .head|exact .tail (.tail .head)|exact .tail (.tail (.tail .head))|exact .tail (.tail (.tail (.tail .head)))|exact .tail (.tail (.tail (.tail (.tail .head))))) (by repeat constructor)) rfl ?_|refine Qa (Qn rfl rfl (by first|assumption|exact (hcl _ hS (by simp)).1|exact (hcl _ hS (by simp)).2.1|exact (hcl _ hS (by simp)).2.2.1|exact (hcl _ hS (by simp)).2.2.2|exact hS.cell0 (by assumption)|exact Qx hS|exact Qy hS)) rfl ?_);exact zz.out):A:=k ⟨h⟩
theorem Zd5 (h:B) (k:Zh B→A:=by intro zz;(first|refine Qa (Qb (k:=4) hS rfl rfl rfl (by first|exact .head|exact .tail .head|exact .tail (.tail .head)|exact .tail (.tail (.tail .head))|exact .tail (.tail (.tail (.tail .head)))|exact .tail (.tail (.tail (.tail (.tail .head))))) (by repeat constructor)) rfl ?_|refine Qa (Qb (k:=4) hS rfl rfl rfl (by first|exact .head|exact .tail .head|exact .tail (.tail .head)|exact .tail (.tail (.tail .head))|exact .tail (.tail (.tail (.tail .head)))|exact .tail (.tail (.tail (.tail (.tail .head))))) (by assumption)) rfl ?_|refine Qa (Qa3 rfl rfl rfl (by first|assumption|exact (hcl _ hS (by simp)).1|exact (hcl _ hS (by simp)).2.1|exact (hcl _ hS (by simp)).2.2.1|exact (hcl _ hS (by simp)).2.2.2|exact hS.cell0 (by assumption)) (by first|assumption|exact (hcl _ hS (by simp)).1|exact (hcl _ hS (by simp)).2.1|exact (hcl _ hS (by simp)).2.2.1|exact (hcl _ hS (by simp)).2.2.2|exact hS.cell0 (by assumption)) (by first|assumption|exact (hcl _ hS (by simp)).1|exact (hcl _ hS (by simp)).2.1|exact (hcl _ hS (by simp)).2.2.1|exact (hcl _ hS (by simp)).2.2.2|exact hS.cell0 (by assumption)) (by first|assumption|exact (hcl _ hS (by simp)).1|exact (hcl _ hS (by simp)).2.1|exact (hcl _ hS (by simp)).2.2.1|exact (hcl _ hS (by simp)).2.2.2|exact hS.cell0 (by assumption))) rfl ?_);exact zz.out):A:=k ⟨h⟩
theorem Zd6 (h:B) (k:Zh B→A:=by intro zz;(first|refine Qd rfl (fun _ hS=>Qf hS rfl rfl (by first|exact .head|exact .tail .head|exact .tail (.tail .head)|exact .tail (.tail (.tail .head))|exact .tail (.tail (.tail (.tail .head)))|exact .tail (.tail (.tail (.tail (.tail .head))))) (by repeat constructor)) rfl ?_|refine Qd rfl (fun _ hS=>Qn rfl rfl (by first|assumption|exact (hcell _ hS).1|exact (hcell _ hS).2.1|exact (hcell _ hS).2.2|exact hll _ hS (by simp)|exact hS.cell0 (by assumption)|exact Qx hS|exact Qy hS)) rfl ?_);exact zz.out):A:=k ⟨h⟩
theorem Zd7 (h:B) (k:Zh B→A:=by intro zz;refine Qa8 Tryz.func21 rfl (by conv=>lhs;whnf) (by conv=>lhs;whnf) ?_;exact zz.out):A:=k ⟨h⟩
theorem Zeh (h:B) (k:Zh B→A:=by intro zz;refine Qe Tryz.func107 rfl Tryz.ntmps107 rfl ?_;exact zz.out):A:=k ⟨h⟩
theorem Zei (h:B) (k:Zh B→A:=by intro zz;(first|refine Qa (Qhz rfl rfl rfl) rfl ?_|refine Qa (Qiv rfl rfl rfl) rfl ?_);exact zz.out):A:=k ⟨h⟩
theorem Zej (h:B) (k:Zh B→A:=by intro zz;refine Qe Tryz.func69 rfl Tryz.ntmps69 rfl ?_;exact zz.out):A:=k ⟨h⟩
theorem Zek (h:B) (k:Zh B→A:=by intro zz;refine Qw (St M w0 _ _) 12 ((0,true)::(1,true)::(2,true)::(3,true)::(5,true)::(6,true)::(7,true)::(8,true)::(9,true)::(4,false)::(10,false)::(11,true)::[]) (by kernel_rfl) (by kernel_rfl) (hS.drew) ?_;exact zz.out):A:=k ⟨h⟩
theorem Zel (h:B) (k:Zh B→A:=by intro zz;refine Qa (Qc5 rfl rfl (Lib.run_unsafeString_none _ _ _ _ _)) rfl ?_;exact zz.out):A:=k ⟨h⟩
theorem Zem (h:B) (k:Zh B→A:=by intro zz;(first|refine Qd rfl (fun _ hS=>Qb (k:=4) hS rfl rfl rfl (by first|exact .head|exact .tail .head|exact .tail (.tail .head)|exact .tail (.tail (.tail .head))|exact .tail (.tail (.tail (.tail .head)))|exact .tail (.tail (.tail (.tail (.tail .head))))) (by repeat constructor)) rfl ?_|refine Qd rfl (fun _ hS=>Qb (k:=4) hS rfl rfl rfl (by first|exact .head|exact .tail .head|exact .tail (.tail .head)|exact .tail (.tail (.tail .head))|exact .tail (.tail (.tail (.tail .head)))|exact .tail (.tail (.tail (.tail (.tail .head))))) (by assumption)) rfl ?_|refine Qd rfl (fun _ hS=>Qa3 rfl rfl rfl (by first|assumption|exact hS.cell0 (by assumption)) (by first|assumption|exact hS.cell0 (by assumption)) (by first|assumption|exact hS.cell0 (by assumption)) (by first|assumption|exact hS.cell0 (by assumption))) rfl ?_);exact zz.out):A:=k ⟨h⟩
theorem Zen (h:B) (k:Zh B→A:=by intro zz;refine QaV (by first|exact hS.only1|exact hS.drop.only1|exact hS.unlearn.only1|exact hS.unlearn.drop.only1) ?_;exact zz.out):A:=k ⟨h⟩
theorem Zeo (h:B) (k:Zh B→A:=by intro zz;refine Qa (Qas (sz:=2) rfl rfl rfl rfl (by omega) (by omega)) rfl ?_;exact zz.out):A:=k ⟨h⟩
theorem Zep (h:B) (k:Zh B→A:=by intro zz;refine Qd rfl (fun _ hS=>Qas (sz:=4) rfl rfl rfl rfl (by omega) (by omega)) rfl ?_;exact zz.out):A:=k ⟨h⟩
theorem Zeq (h:B) (k:Zh B→A:=by intro zz;refine Qa (QfR rfl rfl (by first|omega|(simp;done)|(simp;omega))) rfl ?_;exact zz.out):A:=k ⟨h⟩
theorem Zer (h:B) (k:Zh B→A:=by intro zz;refine Qc Tryz.func37 rfl (by conv=>lhs;whnf) ?_;exact zz.out):A:=k ⟨h⟩
theorem Zes (h:B) (k:Zh B→A:=by intro zz;refine Qc Tryz.func185 rfl (by conv=>lhs;whnf) ?_;exact zz.out):A:=k ⟨h⟩
theorem Zet (h:B) (k:Zh B→A:=by intro zz;refine Qa (QjS rfl rfl rfl) rfl ?_;exact zz.out):A:=k ⟨h⟩
theorem Zeu (h:B) (k:Zh B→A:=by intro zz;refine QdJ (cs:=[_]) hS rfl rfl rfl ?_;exact zz.out):A:=k ⟨h⟩
theorem Zev (h:B) (k:Zh B→A:=by intro zz;(first|refine Qa (Qb (k:=3) hS rfl rfl rfl (by first|exact .head|exact .tail .head|exact .tail (.tail .head)|exact .tail (.tail (.tail .head))|exact .tail (.tail (.tail (.tail .head)))|exact .tail (.tail (.tail (.tail (.tail .head))))) (by repeat constructor)) rfl ?_|refine Qa (Qb (k:=3) hS rfl rfl rfl (by first|exact .head|exact .tail .head|exact .tail (.tail .head)|exact .tail (.tail (.tail .head))|exact .tail (.tail (.tail (.tail .head)))|exact .tail (.tail (.tail (.tail (.tail .head))))) (by assumption)) rfl ?_|refine Qa (Qa4 rfl rfl rfl (by first|assumption|exact (hcc _ hS).1|exact (hcc _ hS).2.1|exact (hcc _ hS).2.2|exact hcb _ hS|exact hcs _ hS|exact hS.cell0 (by assumption)) (by first|assumption|exact (hcc _ hS).1|exact (hcc _ hS).2.1|exact (hcc _ hS).2.2|exact hcb _ hS|exact hcs _ hS|exact hS.cell0 (by assumption)) (by first|assumption|exact (hcc _ hS).1|exact (hcc _ hS).2.1|exact (hcc _ hS).2.2|exact hcb _ hS|exact hcs _ hS|exact hS.cell0 (by assumption))) rfl ?_);exact zz.out):A:=k ⟨h⟩
theorem Zew (h:B) (k:Zh B→A:=by intro zz;refine Qs rfl (fun _ hS=>Qi (off:=1) rfl rfl) rfl ?_;exact zz.out):A:=k ⟨h⟩
theorem Zex (h:B) (k:Zh B→A:=by intro zz;refine Qf4 (sz:=2) hS Tryz.func90 rfl rfl (by conv=>lhs;whnf) (by conv=>lhs;whnf) rfl rfl (by first|exact .head|exact .tail .head|exact .tail (.tail .head)|exact .tail (.tail (.tail .head))|exact .tail (.tail (.tail (.tail .head)))|exact .tail (.tail (.tail (.tail (.tail .head))))) (by repeat constructor) ?_;exact zz.out):A:=k ⟨h⟩
theorem Zey (h:B) (k:Zh B→A:=by intro zz;refine QcW (sz:=2) hS Tryz.func189 rfl rfl (by conv=>lhs;whnf) rfl rfl (by first|exact .head|exact .tail .head|exact .tail (.tail .head)|exact .tail (.tail (.tail .head))|exact .tail (.tail (.tail (.tail .head)))|exact .tail (.tail (.tail (.tail (.tail .head))))) (by repeat constructor) ?_;exact zz.out):A:=k ⟨h⟩
theorem Zez (h:B) (k:Zh B→A:=by intro zz;refine QfY (by first|exact hS|exact hS.drop|exact hS.drop.drop|exact hS.drop.drop.drop|exact hS.unlearn|exact hS.unlearn.drop|exact hS.unlearn.drop.drop) ?_;exact zz.out):A:=k ⟨h⟩
theorem ZeA (h:B) (k:Zh B→A:=by intro zz;refine Qc Tryz.func239 rfl (by conv=>lhs;whnf) ?_;exact zz.out):A:=k ⟨h⟩
theorem ZeB (h:B) (k:Zh B→A:=by intro zz;refine Qw (St _ _ _ _) 17 ((0,true)::(1,true)::(2,true)::(3,true)::(4,true)::(5,true)::(6,true)::(7,true)::(8,true)::(9,true)::(10,true)::(11,true)::(12,true)::(13,true)::(14,true)::(15,true)::(16,true)::[]) (by kernel_rfl) (by kernel_rfl) (hS.drew) ?_;exact zz.out):A:=k ⟨h⟩
theorem ZeC (h:B) (k:Zh B→A:=by intro zz;refine Qw (St _ _ _ _) 9 ((0,true)::(1,true)::(2,true)::(3,true)::(4,true)::(5,true)::(6,true)::(7,true)::(8,true)::[]) (by kernel_rfl) (by kernel_rfl) (hS.drew) ?_;exact zz.out):A:=k ⟨h⟩
theorem ZeD (h:B) (k:Zh B→A:=by intro zz;refine Qf4 (sz:=4) hS Tryz.func91 rfl rfl (by conv=>lhs;whnf) (by conv=>lhs;whnf) rfl rfl (by first|exact .head|exact .tail .head|exact .tail (.tail .head)|exact .tail (.tail (.tail .head))|exact .tail (.tail (.tail (.tail .head)))|exact .tail (.tail (.tail (.tail (.tail .head))))) (by repeat constructor) ?_;exact zz.out):A:=k ⟨h⟩
theorem ZeE (h:B) (k:Zh B→A:=by intro zz;refine Qa (QK (cells:=[_,_,_]) (.cons (by conv=>lhs;whnf) (.cons (by conv=>lhs;whnf) .nil)) rfl) rfl ?_;exact zz.out):A:=k ⟨h⟩
theorem ZeF (h:B) (k:Zh B→A:=by intro zz;refine Qd rfl (fun _ hS=>Qas (sz:=1) rfl rfl rfl rfl (by omega) (by omega)) rfl ?_;exact zz.out):A:=k ⟨h⟩
theorem ZeG (h:B) (k:Zh B→A:=by intro zz;refine Qc Tryz.func100 rfl (by conv=>lhs;whnf) ?_;exact zz.out):A:=k ⟨h⟩
theorem ZeH (h:B) (k:Zh B→A:=by intro zz;refine Qs rfl (fun _ ⟨_,hS⟩=>Qe8 (by conv=>lhs;whnf)) rfl ?_;exact zz.out):A:=k ⟨h⟩
theorem ZeI (h:B) (k:Zh B→A:=by intro zz;refine QbP (Qd3 (by kernel_rfl) (Qvl (by conv=>lhs;whnf) (by conv=>lhs;whnf) (by conv=>lhs;whnf) (by conv=>lhs;whnf) (by conv=>lhs;whnf))) rfl ?_;exact zz.out):A:=k ⟨h⟩
theorem ZeJ (h:B) (k:Zh B→A:=by intro zz;refine Qc Tryz.func98 rfl (by conv=>lhs;whnf) ?_;exact zz.out):A:=k ⟨h⟩
theorem ZeK (h:B) (k:Zh B→A:=by intro zz;refine Qc Tryz.func31 rfl (by conv=>lhs;whnf) ?_;exact zz.out):A:=k ⟨h⟩
theorem ZeL (h:B) (k:Zh B→A:=by intro zz;refine Qaj rfl rfl rfl (fun _ hS=>Qe8 (by conv=>lhs;whnf)) rfl ?_;exact zz.out):A:=k ⟨h⟩
theorem ZeM (h:B) (k:Zh B→A:=by intro zz;refine Qaj rfl rfl rfl (fun _ hS=>QaT rfl) rfl ?_;exact zz.out):A:=k ⟨h⟩
theorem ZeN (h:B) (k:Zh B→A:=by intro zz;(first|refine Qaj rfl rfl rfl (fun _ hS=>Qf hS rfl rfl (by first|exact .head|exact .tail .head|exact .tail (.tail .head)|exact .tail (.tail (.tail .head))|exact .tail (.tail (.tail (.tail .head)))|exact .tail (.tail (.tail (.tail (.tail .head))))) (by repeat constructor)) rfl ?_|refine Qaj rfl rfl rfl (fun _ hS=>Qn rfl rfl (by first|assumption|exact hS.cell0 (by assumption)|exact Qx hS|exact Qy hS)) rfl ?_);exact zz.out):A:=k ⟨h⟩
theorem ZeO (h:B) (k:Zh B→A:=by intro zz;(first|refine Qd rfl (fun _ hS=>QiX rfl (by conv=>lhs;whnf)) rfl ?_|refine Qd rfl (fun _ hS=>QiY rfl (by conv=>lhs;whnf)) rfl ?_);exact zz.out):A:=k ⟨h⟩
theorem ZeP (h:B) (k:Zh B→A:=by intro zz;(first|refine Qa (Qf hS rfl rfl (by first|exact .head|exact .tail .head|exact .tail (.tail .head)|exact .tail (.tail (.tail .head))|exact .tail (.tail (.tail (.tail .head)))|exact .tail (.tail (.tail (.tail (.tail .head))))) (by repeat constructor)) rfl ?_|refine Qa (Qn rfl rfl (by first|assumption|exact (hcell _ hS).1|exact (hcell _ hS).2.1|exact (hcell _ hS).2.2|exact (hll _ hS (by simp)).1|exact (hll _ hS (by simp)).2.1|exact (hll _ hS (by simp)).2.2|exact hS.cell0 (by assumption)|exact Qx hS|exact Qy hS)) rfl ?_);exact zz.out):A:=k ⟨h⟩
theorem ZeQ (h:B) (k:Zh B→A:=by intro zz;(first|refine Qa (Qf hS rfl rfl (by first|exact .head|exact .tail .head|exact .tail (.tail .head)|exact .tail (.tail (.tail .head))|exact .tail (.tail (.tail (.tail .head)))|exact .tail (.tail (.tail (.tail (.tail .head))))) (by repeat constructor)) rfl ?_|refine Qa (Qn rfl rfl (by first|assumption|exact hk _ hS|exact hll' _ hS (by simp)|exact hS.cell0 (by assumption)|exact Qx hS|exact Qy hS)) rfl ?_);exact zz.out):A:=k ⟨h⟩
theorem ZeR (h:B) (k:Zh B→A:=by intro zz;(first|refine Qd rfl (fun _ hS=>Qf hS rfl rfl (by first|exact .head|exact .tail .head|exact .tail (.tail .head)|exact .tail (.tail (.tail .head))|exact .tail (.tail (.tail (.tail .head)))|exact .tail (.tail (.tail (.tail (.tail .head))))) (by repeat constructor)) rfl ?_|refine Qd rfl (fun _ hS=>Qn rfl rfl (by first|assumption|exact hc1 _ hS|exact hc2 _ hS|exact hS.cell0 (by assumption)|exact Qx hS|exact Qy hS)) rfl ?_);exact zz.out):A:=k ⟨h⟩
theorem ZeS (h:B) (k:Zh B→A:=by intro zz;refine Qc Tryz.func18 rfl (by conv=>lhs;whnf) ?_;exact zz.out):A:=k ⟨h⟩
theorem Ze9 (h:B) (k:Zh B→A:=by intro zz;refine Qa (Qeq rfl rfl rfl (by omega) (by first|omega|(simp;done)|(simp;omega))) rfl ?_;exact zz.out):A:=k ⟨h⟩
theorem Zfa (h:B) (k:Zh B→A:=by intro zz;refine QdJ (cs:=[_,_,_,_,_,_]) hS rfl rfl rfl ?_;exact zz.out):A:=k ⟨h⟩
theorem Zfb (h:B) (k:Zh B→A:=by intro zz;refine Qa8 Tryz.func24 rfl (by conv=>lhs;whnf) (by conv=>lhs;whnf) ?_;exact zz.out):A:=k ⟨h⟩
theorem Zfc (h:B) (k:Zh B→A:=by intro zz;refine Qc Tryz.func203 rfl (by conv=>lhs;whnf) ?_;exact zz.out):A:=k ⟨h⟩
theorem Zfd (h:B) (k:Zh B→A:=by intro zz;refine QaN (cells:=[_,_]) hS (.cons (by conv=>lhs;whnf) .nil) rfl rfl ?_;exact zz.out):A:=k ⟨h⟩
theorem Zfe (h:B) (k:Zh B→A:=by intro zz;refine Qw (St _ w0 [_] _) 10 ((0,true)::(1,true)::(2,true)::(3,true)::(4,true)::(5,true)::(6,true)::(7,true)::(8,true)::(9,true)::[]) (by kernel_rfl) (by kernel_rfl) (hS.drew.only1) ?_;exact zz.out):A:=k ⟨h⟩
theorem Zff (h:B) (k:Zh B→A:=by intro zz;refine Qa (Qis rfl rfl rfl rfl (by omega) (by omega) (by first|omega|(simp;omega))) rfl ?_;exact zz.out):A:=k ⟨h⟩
theorem Zfg (h:B) (k:Zh B→A:=by intro zz;refine Qc Tryz.func142 rfl (by conv=>lhs;whnf) ?_;exact zz.out):A:=k ⟨h⟩
theorem Zfh (h:B) (k:Zh B→A:=by intro zz;refine Qc Tryz.func140 rfl (by conv=>lhs;whnf) ?_;exact zz.out):A:=k ⟨h⟩
theorem Zfi (h:B) (k:Zh B→A:=by intro zz;refine Qc Tryz.func215 rfl (by conv=>lhs;whnf) ?_;exact zz.out):A:=k ⟨h⟩
theorem Zfj (h:B) (k:Zh B→A:=by intro zz;refine Qc Tryz.func218 rfl (by conv=>lhs;whnf) ?_;exact zz.out):A:=k ⟨h⟩
theorem Zfk (h:B) (k:Zh B→A:=by intro zz;refine Qpp (sz:=2) hS Tryz.func95 rfl rfl (by conv=>lhs;whnf) (by conv=>lhs;whnf) (by conv=>lhs;whnf) (by conv=>lhs;whnf) rfl rfl (by first|exact .head|exact .tail .head|exact .tail (.tail .head)|exact .tail (.tail (.tail .head))|exact .tail (.tail (.tail (.tail .head)))|exact .tail (.tail (.tail (.tail (.tail .head))))) (by repeat constructor) ?_;exact zz.out):A:=k ⟨h⟩
theorem Zfl (h:B) (k:Zh B→A:=by intro zz;refine Calls.mono (Qm4 h.tr N Mk h.tr.length hNl B _ A6 d _ c6 _ ((hTr.mono hF27).mono hF8) ((hN.mono (fun φ h=>hF7 φ (hF6 φ h))).mono hF8) (hS6'.mono hF8) (fun a ha=>by rw [hml];exact htr a ha) hl2 rfl hS) ?_;exact zz.out):A:=k ⟨h⟩
theorem Zfm (h:B) (k:Zh B→A:=by intro zz;refine Qc Tryz.func220 rfl (by conv=>lhs;whnf) ?_;exact zz.out):A:=k ⟨h⟩
theorem Zfn (h:B) (k:Zh B→A:=by intro zz;refine Qc Tryz.func223 rfl (by conv=>lhs;whnf) ?_;exact zz.out):A:=k ⟨h⟩
theorem Zfo (h:B) (k:Zh B→A:=by intro zz;refine Qc Tryz.func224 rfl (by conv=>lhs;whnf) ?_;exact zz.out):A:=k ⟨h⟩
theorem Zfp (h:B) (k:Zh B→A:=by intro zz;refine QfY (by first|exact hS|exact hS.drop|exact hS.drop.drop|exact hS.drop.drop.drop|exact hS.unlearn|exact hS.unlearn.drop|exact hS.unlearn.drop.drop|exact hS.dropL|exact hS.dropL.dropL|exact hS.drop.dropL.dropL) ?_;exact zz.out):A:=k ⟨h⟩
theorem Zfq (h:B) (k:Zh B→A:=by intro zz;refine Qd rfl (fun _ hS=>Qi (off:=4) rfl rfl) rfl ?_;exact zz.out):A:=k ⟨h⟩
theorem Zfr (h:B) (k:Zh B→A:=by intro zz;refine QdT (sz:=3) hS Tryz.func138 rfl rfl rfl rfl (by first|exact .head|exact .tail .head|exact .tail (.tail .head)|exact .tail (.tail (.tail .head))|exact .tail (.tail (.tail (.tail .head)))|exact .tail (.tail (.tail (.tail (.tail .head))))) (by repeat constructor) ?_;exact zz.out):A:=k ⟨h⟩
theorem Zfs (h:B) (k:Zh B→A:=by intro zz;(first|refine Qd rfl (fun _ hS=>Qf hS rfl rfl (by first|exact .head|exact .tail .head|exact .tail (.tail .head)|exact .tail (.tail (.tail .head))|exact .tail (.tail (.tail (.tail .head)))|exact .tail (.tail (.tail (.tail (.tail .head))))) (by repeat constructor)) rfl ?_|refine Qd rfl (fun _ hS=>Qn rfl rfl (by first|assumption|exact (hll _ hS (by repeat constructor)).1|exact (hll _ hS (by repeat constructor)).2.1|exact (hll _ hS (by repeat constructor)).2.2|exact hS.cell0 (by assumption)|exact Qx hS|exact Qy hS)) rfl ?_);exact zz.out):A:=k ⟨h⟩
theorem Zft (h:B) (k:Zh B→A:=by intro zz;(first|refine Qs rfl (fun _ ⟨_,hS⟩=>Qf hS rfl rfl (by first|exact .head|exact .tail .head|exact .tail (.tail .head)|exact .tail (.tail (.tail .head))|exact .tail (.tail (.tail (.tail .head)))|exact .tail (.tail (.tail (.tail (.tail .head))))) (by repeat constructor)) rfl ?_|refine Qs rfl (fun _ ⟨_,hS⟩=>Qn rfl rfl (by first|assumption|exact (hll _ hS (by repeat constructor)).1|exact (hll _ hS (by repeat constructor)).2.1|exact (hll _ hS (by repeat constructor)).2.2|exact hS.cell0 (by assumption)|exact Qx hS|exact Qy hS)) rfl ?_);exact zz.out):A:=k ⟨h⟩
theorem Zfu (h:B) (k:Zh B→A:=by intro zz;refine Qh3 Tryz.func154 rfl (by conv=>lhs;whnf) (by conv=>lhs;whnf) (by conv=>lhs;whnf) ?_;exact zz.out):A:=k ⟨h⟩
theorem Zfv (h:B) (k:Zh B→A:=by intro zz;refine Qw (St _ _ _ _) 16 ((0,true)::(1,true)::(2,true)::(3,true)::(4,true)::(5,true)::(6,true)::(7,true)::(8,true)::(9,true)::(10,true)::(11,true)::(12,true)::(13,true)::(14,true)::(15,true)::[]) (by kernel_rfl) (by kernel_rfl) (hS.drew) ?_;exact zz.out):A:=k ⟨h⟩
theorem Zfw (h:B) (k:Zh B→A:=by intro zz;refine Qd rfl (fun _ hS=>Qi (off:=10) rfl rfl) rfl ?_;exact zz.out):A:=k ⟨h⟩
theorem Zfx (h:B) (k:Zh B→A:=by intro zz;refine Qd rfl (fun _ hS=>Qi (off:=6) rfl rfl) rfl ?_;exact zz.out):A:=k ⟨h⟩
theorem Zfy (h:B) (k:Zh B→A:=by intro zz;(first|refine Qd rfl (fun _ hS=>Qhv rfl rfl (by omega)) rfl ?_|refine Qd rfl (fun _ hS=>QiZ rfl rfl (by omega)) rfl ?_|refine Qd rfl (fun _ hS=>rfl) rfl ?_);exact zz.out):A:=k ⟨h⟩
theorem Zfz (h:B) (k:Zh B→A:=by intro zz;(first|refine Qd rfl (fun _ hS=>Qf hS rfl rfl (by first|exact .head|exact .tail .head|exact .tail (.tail .head)|exact .tail (.tail (.tail .head))|exact .tail (.tail (.tail (.tail .head)))|exact .tail (.tail (.tail (.tail (.tail .head))))) (by repeat constructor)) rfl ?_|refine Qd rfl (fun _ hS=>Qn rfl rfl (by first|assumption|exact hk _ hS|exact hg _ hS|exact hS.cell0 (by assumption)|exact Qx hS|exact Qy hS)) rfl ?_);exact zz.out):A:=k ⟨h⟩
theorem ZfH (h:B) (k:Zh B→A:=by intro zz;refine Qa (Qet rfl (Lib.run_to_unsafe (P:=Tryz.prog) w (t:=118) ⟨b,0,none⟩ rfl rfl rfl (by decide) hsh (by simp))) rfl ?_;exact zz.out):A:=k ⟨h⟩
theorem ZfI (h:B) (k:Zh B→A:=by intro zz;refine Qa (QmI (ex:=Extern.AbiNoEscape.same) (Qoz rfl) Tryz.func164 (by kernel_rfl) (by kernel_rfl) (by kernel_rfl) (by kernel_rfl) (Lib.run_noEscape w _)) rfl ?_;exact zz.out):A:=k ⟨h⟩
theorem ZfJ (h:B) (k:Zh B→A:=by intro zz;refine Qa (Qet rfl (Lib.run_from_unsafe (P:=Tryz.prog) w (u:=118) ⟨b,0,none⟩ rfl rfl rfl hsh (by kernel_rfl))) rfl ?_;exact zz.out):A:=k ⟨h⟩
theorem ZfK (h:B) (k:Zh B→A:=by intro zz;(first|refine Qa (Qit rfl rfl rfl) rfl ?_|refine Qa (Qht rfl rfl rfl) rfl ?_|refine Qa (Qgy rfl rfl rfl rfl) rfl ?_);exact zz.out):A:=k ⟨h⟩
theorem ZfL (h:B) (k:Zh B→A:=by intro zz;refine QaW (sz:=1) (bts:=1) hS (by conv=>lhs;whnf) rfl rfl rfl rfl (hB) rfl rfl (.cons _ List.perm_middle.symm) (by omega) (by omega) rfl ?_;exact zz.out):A:=k ⟨h⟩
theorem ZfM (h:B) (k:Zh B→A:=by intro zz;refine Qw (fun _=>True) 13 ((0,true)::(1,true)::(2,true)::(3,true)::(4,true)::(5,true)::(6,true)::(7,true)::(8,true)::(9,true)::(10,false)::(11,true)::(12,true)::[]) (by kernel_rfl) (by kernel_rfl) (trivial) ?_;exact zz.out):A:=k ⟨h⟩
theorem ZfN (h:B) (k:Zh B→A:=by intro zz;refine Qd rfl (fun _ hS=>Qgh rfl rfl rfl (by omega) (by first|omega|(simp;done)|(simp;omega))) rfl ?_;exact zz.out):A:=k ⟨h⟩
theorem ZfO (h:B) (k:Zh B→A:=by intro zz;refine Qd rfl (fun _ hS=>Qeq rfl rfl rfl (by omega) (by first|omega|(simp;done)|(simp;omega))) rfl ?_;exact zz.out):A:=k ⟨h⟩
theorem ZfP (h:B) (k:Zh B→A:=by intro zz;refine Qa (QK (cells:=[_,_,_,_]) (.cons (by conv=>lhs;whnf) (.cons (by conv=>lhs;whnf) (.cons (by conv=>lhs;whnf) .nil))) rfl) rfl ?_;exact zz.out):A:=k ⟨h⟩
theorem ZfQ (h:B) (k:Zh B→A:=by intro zz;refine Calls.mono (L3 (c::r) s.adv A _ vc M w0 _ _ F b hG (by rw [←htk];unfold RS.left at hl;omega) hS) ?_;exact zz.out):A:=k ⟨h⟩
theorem ZfR (h:B) (k:Zh B→A:=by intro zz;refine QdT (sz:=6) hS Tryz.func41 rfl rfl rfl rfl (by first|exact .head|exact .tail .head|exact .tail (.tail .head)|exact .tail (.tail (.tail .head))|exact .tail (.tail (.tail (.tail .head)))|exact .tail (.tail (.tail (.tail (.tail .head))))) (by repeat constructor) ?_;exact zz.out):A:=k ⟨h⟩
theorem ZfS (h:B) (k:Zh B→A:=by intro zz;refine Qw (St M w0 _ _) 6 ((0,true)::(1,true)::(2,true)::(3,true)::(4,true)::(5,true)::[]) (by kernel_rfl) (by kernel_rfl) (hS.drew) ?_;exact zz.out):A:=k ⟨h⟩
theorem ZfT (h:B) (k:Zh B→A:=by intro zz;refine QaV (by first|exact hS.only2|exact hS.drop.only2|exact hS.unlearn.only2|exact hS.unlearn.drop.only2) ?_;exact zz.out):A:=k ⟨h⟩
theorem ZfU (h:B) (k:Zh B→A:=by intro zz;refine Qw (St _ w0 [_] _) 12 ((0,true)::(1,true)::(2,true)::(3,true)::(4,true)::(5,true)::(6,true)::(7,true)::(8,true)::(9,true)::(10,true)::(11,true)::[]) (by kernel_rfl) (by kernel_rfl) (hS.drew.only1) ?_;exact zz.out):A:=k ⟨h⟩
theorem ZfV (h:B) (k:Zh B→A:=by intro zz;(first|refine Qd rfl (fun _ hS=>Qqo rfl rfl (by omega) (by omega)) rfl ?_|refine Qd rfl (fun _ hS=>QiV rfl rfl) rfl ?_);exact zz.out):A:=k ⟨h⟩
theorem ZfW (h:B) (k:Zh B→A:=by intro zz;(first|refine Qa (Qk0 rfl rfl) rfl ?_|refine Qa (QnR rfl rfl (by omega) (by omega) (by omega)) rfl ?_|refine Qa (QnS rfl rfl (by omega) (by omega)) rfl ?_);exact zz.out):A:=k ⟨h⟩
theorem ZfX (h:B) (k:Zh B→A:=by intro zz;refine Qw (St _ _ _ _) 8 ((0,true)::(1,true)::(2,true)::(3,true)::(4,false)::(5,true)::(6,true)::(7,true)::[]) (by kernel_rfl) (by kernel_rfl) (hS.drew) ?_;exact zz.out):A:=k ⟨h⟩
theorem ZfY (h:B) (k:Zh B→A:=by intro zz;refine QaW (sz:=1) (bts:=16) hS (by conv=>lhs;whnf) rfl rfl rfl rfl (hrow) rfl rfl (List.Perm.cons _ (List.perm_append_comm_assoc [_,_] O [])) (by omega) (by omega) rfl ?_;exact zz.out):A:=k ⟨h⟩
theorem ZfZ (h:B) (k:Zh B→A:=by intro zz;refine Qs rfl (fun _ hS=>QfR rfl rfl (by first|omega|(simp;done)|(simp;omega))) rfl ?_;exact zz.out):A:=k ⟨h⟩
theorem Zf0 (h:B) (k:Zh B→A:=by intro zz;(first|refine Qa (Qb (k:=2) hS rfl rfl rfl (by first|exact .head|exact .tail .head|exact .tail (.tail .head)|exact .tail (.tail (.tail .head))|exact .tail (.tail (.tail (.tail .head)))|exact .tail (.tail (.tail (.tail (.tail .head))))) (by repeat constructor)) rfl ?_|refine Qa (Qb (k:=2) hS rfl rfl rfl (by first|exact .head|exact .tail .head|exact .tail (.tail .head)|exact .tail (.tail (.tail .head))|exact .tail (.tail (.tail (.tail .head)))|exact .tail (.tail (.tail (.tail (.tail .head))))) (by assumption)) rfl ?_|refine Qa (QaH rfl rfl rfl (by first|assumption|exact hpa _ hS|exact hS.cell0 (by assumption)) (by first|assumption|exact hpa _ hS|exact hS.cell0 (by assumption))) rfl ?_);exact zz.out):A:=k ⟨h⟩
theorem Zf1 (h:B) (k:Zh B→A:=by intro zz;(first|refine Qa (Qb (k:=3) hS rfl rfl rfl (by first|exact .head|exact .tail .head|exact .tail (.tail .head)|exact .tail (.tail (.tail .head))|exact .tail (.tail (.tail (.tail .head)))|exact .tail (.tail (.tail (.tail (.tail .head))))) (by repeat constructor)) rfl ?_|refine Qa (Qb (k:=3) hS rfl rfl rfl (by first|exact .head|exact .tail .head|exact .tail (.tail .head)|exact .tail (.tail (.tail .head))|exact .tail (.tail (.tail (.tail .head)))|exact .tail (.tail (.tail (.tail (.tail .head))))) (by assumption)) rfl ?_|refine Qa (Qa4 rfl rfl rfl (by first|assumption|exact hwl _ hS|exact (hcc _ hS).1|exact (hcc _ hS).2.1|exact (hcc _ hS).2.2|exact hS.cell0 (by assumption)) (by first|assumption|exact hwl _ hS|exact (hcc _ hS).1|exact (hcc _ hS).2.1|exact (hcc _ hS).2.2|exact hS.cell0 (by assumption)) (by first|assumption|exact hwl _ hS|exact (hcc _ hS).1|exact (hcc _ hS).2.1|exact (hcc _ hS).2.2|exact hS.cell0 (by assumption))) rfl ?_);exact zz.out):A:=k ⟨h⟩
theorem Zf2 (h:B) (k:Zh B→A:=by intro zz;refine Q8 hS rfl (by conv=>lhs;whnf) rfl rfl .head (by rw [hi1,Nat.zero_add,Nat.mul_one];exact hput) .head ?_;exact zz.out):A:=k ⟨h⟩
theorem Zf3 (h:B) (k:Zh B→A:=by intro zz;(first|refine Qa (Qf hS rfl rfl (by first|exact .head|exact .tail .head|exact .tail (.tail .head)|exact .tail (.tail (.tail .head))|exact .tail (.tail (.tail (.tail .head)))|exact .tail (.tail (.tail (.tail (.tail .head))))) (by repeat constructor)) rfl ?_|refine Qa (Qn rfl rfl (by first|assumption|exact hct _ hS|exact hcs _ hS|exact hS.cell0 (by assumption)|exact Qx hS|exact Qy hS)) rfl ?_);exact zz.out):A:=k ⟨h⟩
theorem Zf4 (h:B) (k:Zh B→A:=by intro zz;(first|refine Qa (Qf hS rfl rfl (by first|exact .head|exact .tail .head|exact .tail (.tail .head)|exact .tail (.tail (.tail .head))|exact .tail (.tail (.tail (.tail .head)))|exact .tail (.tail (.tail (.tail (.tail .head))))) (by repeat constructor)) rfl ?_|refine Qa (Qn rfl rfl (by first|assumption|exact hct _ hS|exact hcm _ hS|exact hS.cell0 (by assumption)|exact Qx hS|exact Qy hS)) rfl ?_);exact zz.out):A:=k ⟨h⟩
theorem Zf5 (h:B) (k:Zh B→A:=by intro zz;(first|refine Qs rfl (fun _ hS=>Qf hS rfl rfl (by first|exact .head|exact .tail .head|exact .tail (.tail .head)|exact .tail (.tail (.tail .head))|exact .tail (.tail (.tail (.tail .head)))|exact .tail (.tail (.tail (.tail (.tail .head))))) (by repeat constructor)) rfl ?_|refine Qs rfl (fun _ hS=>Qn rfl rfl (by first|assumption|exact hct _ hS|exact hcm _ hS|exact hS.cell0 (by assumption)|exact Qx hS|exact Qy hS)) rfl ?_);exact zz.out):A:=k ⟨h⟩
theorem Zf6 (h:B) (k:Zh B→A:=by intro zz;refine Calls.mono (Qkc h.cs Mk A A2 A6 c c2 c6 _ (hCs.mono hF27) (hM2.mono hF27) hS6' hgl hl1 hml hS) ?_;exact zz.out):A:=k ⟨h⟩
theorem Zf7 (h:B) (k:Zh B→A:=by intro zz;refine Qa (QK (cells:=[_,_]) (.cons (by conv=>lhs;whnf) (.cons (by conv=>lhs;whnf) .nil)) rfl) rfl ?_;exact zz.out):A:=k ⟨h⟩
theorem Zf8 (h:B) (k:Zh B→A:=by intro zz;(first|refine Qs rfl (fun _ hS=>Qf hS rfl rfl (by first|exact .head|exact .tail .head|exact .tail (.tail .head)|exact .tail (.tail (.tail .head))|exact .tail (.tail (.tail (.tail .head)))|exact .tail (.tail (.tail (.tail (.tail .head))))) (by repeat constructor)) rfl ?_|refine Qs rfl (fun _ hS=>Qn rfl rfl (by first|assumption|exact hct _ hS|exact hS.cell0 (by assumption)|exact Qx hS|exact Qy hS)) rfl ?_);exact zz.out):A:=k ⟨h⟩
theorem Zf9 (h:B) (k:Zh B→A:=by intro zz;refine Q8 hS rfl (by conv=>lhs;whnf) rfl rfl (.tail .head) (by rw [Nat.zero_add];exact hput) (.tail .head) ?_;exact zz.out):A:=k ⟨h⟩
theorem Zga (h:B) (k:Zh B→A:=by intro zz;(first|refine Qd rfl (fun _ hS=>Qf hS rfl rfl (by first|exact .head|exact .tail .head|exact .tail (.tail .head)|exact .tail (.tail (.tail .head))|exact .tail (.tail (.tail (.tail .head)))|exact .tail (.tail (.tail (.tail (.tail .head))))) (by repeat constructor)) rfl ?_|refine Qd rfl (fun _ hS=>Qn rfl rfl (by first|assumption|exact (hcx _ hS).1|exact (hcx _ hS).2.1|exact (hcx _ hS).2.2|exact (hcy _ hS).1|exact (hcy _ hS).2.1|exact (hcy _ hS).2.2|exact hS.cell0 (by assumption)|exact Qx hS|exact Qy hS)) rfl ?_);exact zz.out):A:=k ⟨h⟩
theorem Zgb (h:B) (k:Zh B→A:=by intro zz;(first|refine Qd rfl (fun _ hS=>Qb (k:=3) hS rfl rfl rfl (by first|exact .head|exact .tail .head|exact .tail (.tail .head)|exact .tail (.tail (.tail .head))|exact .tail (.tail (.tail (.tail .head)))|exact .tail (.tail (.tail (.tail (.tail .head))))) (by repeat constructor)) rfl ?_|refine Qd rfl (fun _ hS=>Qb (k:=3) hS rfl rfl rfl (by first|exact .head|exact .tail .head|exact .tail (.tail .head)|exact .tail (.tail (.tail .head))|exact .tail (.tail (.tail (.tail .head)))|exact .tail (.tail (.tail (.tail (.tail .head))))) (by assumption)) rfl ?_|refine Qd rfl (fun _ hS=>Qa4 rfl rfl rfl (by first|assumption|exact (hcx _ hS).1|exact (hcx _ hS).2.1|exact (hcx _ hS).2.2|exact (hcy _ hS).1|exact (hcy _ hS).2.1|exact (hcy _ hS).2.2|exact hS.cell0 (by assumption)) (by first|assumption|exact (hcx _ hS).1|exact (hcx _ hS).2.1|exact (hcx _ hS).2.2|exact (hcy _ hS).1|exact (hcy _ hS).2.1|exact (hcy _ hS).2.2|exact hS.cell0 (by assumption)) (by first|assumption|exact (hcx _ hS).1|exact (hcx _ hS).2.1|exact (hcx _ hS).2.2|exact (hcy _ hS).1|exact (hcy _ hS).2.1|exact (hcy _ hS).2.2|exact hS.cell0 (by assumption))) rfl ?_);exact zz.out):A:=k ⟨h⟩
theorem Zgc (h:B) (k:Zh B→A:=by intro zz;(first|refine Qa (Qf hS rfl rfl (by first|exact .head|exact .tail .head|exact .tail (.tail .head)|exact .tail (.tail (.tail .head))|exact .tail (.tail (.tail (.tail .head)))|exact .tail (.tail (.tail (.tail (.tail .head))))) (by repeat constructor)) rfl ?_|refine Qa (Qn rfl rfl (by first|assumption|exact (hcx _ hS).1|exact (hcx _ hS).2.1|exact (hcx _ hS).2.2|exact (hcy _ hS).1|exact (hcy _ hS).2.1|exact (hcy _ hS).2.2|exact hS.cell0 (by assumption)|exact Qx hS|exact Qy hS)) rfl ?_);exact zz.out):A:=k ⟨h⟩
theorem Zgd (h:B) (k:Zh B→A:=by intro zz;refine Calls.mono (hcall _ (hL.mono hFF') hg hl hadr hP' (by omega) (by omega) (by omega) (by omega) (by omega) (hS.perm (List.perm_append_comm_assoc [_,_,_] [_,_] _))) ?_;exact zz.out):A:=k ⟨h⟩
theorem Zge (h:B) (k:Zh B→A:=by intro zz;refine Qd9 hS rfl (by conv=>lhs;whnf) rfl rfl (.tail .head) (QgN (Qmz D') [r0,r1,r2,r3] (tcs u2) rs _ (by omega) rfl) (.tail .head) ?_;exact zz.out):A:=k ⟨h⟩
theorem Zgf (h:B) (k:Zh B→A:=by intro zz;(first|refine Qd rfl (fun _ hS=>Qf hS rfl rfl (by first|exact .head|exact .tail .head|exact .tail (.tail .head)|exact .tail (.tail (.tail .head))|exact .tail (.tail (.tail (.tail .head)))|exact .tail (.tail (.tail (.tail (.tail .head))))) (by repeat constructor)) rfl ?_|refine Qd rfl (fun _ hS=>Qn rfl rfl (by first|assumption|exact (hcc _ hS).1|exact (hcc _ hS).2.1|exact (hcc _ hS).2.2|exact hS.cell0 (by assumption)|exact Qx hS|exact Qy hS)) rfl ?_);exact zz.out):A:=k ⟨h⟩
theorem Zgg (h:B) (k:Zh B→A:=by intro zz;refine Calls.mono (hcall _ hL hgl hl1 ha hP (by omega) (by omega) (by omega) (by omega) (by omega) hS) ?_;exact zz.out):A:=k ⟨h⟩
theorem Zgh (h:B) (k:Zh B→A:=by intro zz;refine Qd9 hS rfl (by rfl) rfl rfl (.tail (.tail .head)) (by rw [Nat.zero_add];exact hput _) (.tail (.tail .head)) ?_;exact zz.out):A:=k ⟨h⟩
theorem Zgi (h:B) (k:Zh B→A:=by intro zz;refine Qa (QK (cells:=[_,_,_,_]) (.cons (by conv=>lhs;whnf) (.cons (by conv=>lhs;whnf) (.cons (by conv=>lhs;whnf) (.cons (by conv=>lhs;whnf) .nil)))) rfl) rfl ?_;exact zz.out):A:=k ⟨h⟩
theorem Zgj (h:B) (k:Zh B→A:=by intro zz;refine Qw (St _ _ _ _) 8 ((0,true)::(1,true)::(2,true)::(3,true)::(4,true)::(5,true)::(6,true)::(7,true)::[]) (by kernel_rfl) (by kernel_rfl) (hS.drew) ?_;exact zz.out):A:=k ⟨h⟩
theorem Zgk (h:B) (k:Zh B→A:=by intro zz;(first|refine Qd rfl (fun _ hS=>Qiw rfl rfl (by assumption)) rfl ?_|refine Qd rfl (fun _ hS=>Qix rfl rfl (by assumption)) rfl ?_);exact zz.out):A:=k ⟨h⟩
theorem Zgl (h:B) (k:Zh B→A:=by intro zz;(first|refine Qa (Qb (k:=4) hS rfl rfl rfl (by first|exact .head|exact .tail .head|exact .tail (.tail .head)|exact .tail (.tail (.tail .head))|exact .tail (.tail (.tail (.tail .head)))|exact .tail (.tail (.tail (.tail (.tail .head))))) (by repeat constructor)) rfl ?_|refine Qa (Qb (k:=4) hS rfl rfl rfl (by first|exact .head|exact .tail .head|exact .tail (.tail .head)|exact .tail (.tail (.tail .head))|exact .tail (.tail (.tail (.tail .head)))|exact .tail (.tail (.tail (.tail (.tail .head))))) (by assumption)) rfl ?_|refine Qa (Qa3 rfl rfl rfl (by first|assumption|exact (hcell _ hS).1|exact (hcell _ hS).2.1|exact (hcell _ hS).2.2|exact hS.cell0 (by assumption)) (by first|assumption|exact (hcell _ hS).1|exact (hcell _ hS).2.1|exact (hcell _ hS).2.2|exact hS.cell0 (by assumption)) (by first|assumption|exact (hcell _ hS).1|exact (hcell _ hS).2.1|exact (hcell _ hS).2.2|exact hS.cell0 (by assumption)) (by first|assumption|exact (hcell _ hS).1|exact (hcell _ hS).2.1|exact (hcell _ hS).2.2|exact hS.cell0 (by assumption))) rfl ?_);exact zz.out):A:=k ⟨h⟩
theorem Zgm (h:B) (k:Zh B→A:=by intro zz;(first|refine Qd rfl (fun _ hS=>Qf hS rfl rfl (by first|exact .head|exact .tail .head|exact .tail (.tail .head)|exact .tail (.tail (.tail .head))|exact .tail (.tail (.tail (.tail .head)))|exact .tail (.tail (.tail (.tail (.tail .head))))) (by repeat constructor)) rfl ?_|refine Qd rfl (fun _ hS=>Qn rfl rfl (by first|assumption|exact hgc _ hS|exact hS.cell0 (by assumption)|exact Qx hS|exact Qy hS)) rfl ?_);exact zz.out):A:=k ⟨h⟩
theorem Zgn (h:B) (k:Zh B→A:=by intro zz;refine Calls.mono (Qn2 x.h (Qu y.cl) hA hB y.A hc hd y.c _ hok'.hh (hfl.imp fun w h=>h.1) hS) ?_;exact zz.out):A:=k ⟨h⟩
theorem Zgo (h:B) (k:Zh B→A:=by intro zz;(first|refine Qa (Qb (k:=2) hS rfl rfl rfl (by first|exact .head|exact .tail .head|exact .tail (.tail .head)|exact .tail (.tail (.tail .head))|exact .tail (.tail (.tail (.tail .head)))|exact .tail (.tail (.tail (.tail (.tail .head))))) (by repeat constructor)) rfl ?_|refine Qa (Qb (k:=2) hS rfl rfl rfl (by first|exact .head|exact .tail .head|exact .tail (.tail .head)|exact .tail (.tail (.tail .head))|exact .tail (.tail (.tail (.tail .head)))|exact .tail (.tail (.tail (.tail (.tail .head))))) (by assumption)) rfl ?_|refine Qa (QaH rfl rfl rfl (by first|assumption|exact (hll _ hS (by repeat constructor)).1|exact (hll _ hS (by repeat constructor)).2.1|exact (hll _ hS (by repeat constructor)).2.2|exact hS.cell0 (by assumption)) (by first|assumption|exact (hll _ hS (by repeat constructor)).1|exact (hll _ hS (by repeat constructor)).2.1|exact (hll _ hS (by repeat constructor)).2.2|exact hS.cell0 (by assumption))) rfl ?_);exact zz.out):A:=k ⟨h⟩
theorem Zgp (h:B) (k:Zh B→A:=by intro zz;(first|refine Qa (Qdz (sz:=4) rfl rfl rfl rfl (by omega) (by omega) (by omega)) rfl ?_|refine Qa (QbF (sz:=4) rfl rfl rfl rfl (by omega) (by omega)) rfl ?_);exact zz.out):A:=k ⟨h⟩
theorem Zgq (h:B) (k:Zh B→A:=by intro zz;refine Qw (St _ w0 [_,_] []) 10 ((0,true)::(1,true)::(2,true)::(3,true)::(4,true)::(5,true)::(6,false)::(7,false)::(8,true)::(9,true)::[]) (by kernel_rfl) (by kernel_rfl) (hS.drew.bare2) ?_;exact zz.out):A:=k ⟨h⟩
theorem Zgr (h:B) (k:Zh B→A:=by intro zz;refine Calls.mono (Qlp x a _ ha ⟨_,hl.choose_spec.1⟩ ⟨_,hl1.choose_spec.1⟩ hlen ⟨_,F,hFF,hok,hS⟩) ?_;exact zz.out):A:=k ⟨h⟩
theorem Zgs (h:B) (k:Zh B→A:=by intro zz;(first|refine Qa (Qf hS rfl rfl (by first|exact .head|exact .tail .head|exact .tail (.tail .head)|exact .tail (.tail (.tail .head))|exact .tail (.tail (.tail (.tail .head)))|exact .tail (.tail (.tail (.tail (.tail .head))))) (by repeat constructor)) rfl ?_|refine Qa (Qn rfl rfl (by first|assumption|exact hsv _ hS (.tail _ (.head _))|exact hS.cell0 (by assumption)|exact Qx hS|exact Qy hS)) rfl ?_);exact zz.out):A:=k ⟨h⟩
theorem Zgt (h:B) (k:Zh B→A:=by intro zz;(first|refine Qaj rfl rfl rfl (fun _ hS=>Qk0 rfl rfl) rfl ?_|refine Qaj rfl rfl rfl (fun _ hS=>QnR rfl rfl (by omega) (by omega) (by omega)) rfl ?_|refine Qaj rfl rfl rfl (fun _ hS=>QnS rfl rfl (by omega) (by omega)) rfl ?_);exact zz.out):A:=k ⟨h⟩
theorem Zgu (h:B) (k:Zh B→A:=by intro zz;(first|refine Qaj rfl rfl rfl (fun _ hS=>Qbo rfl rfl) rfl ?_|refine Qaj rfl rfl rfl (fun _ hS=>QfQ rfl rfl (by first|assumption|omega)) rfl ?_|refine Qaj rfl rfl rfl (fun _ hS=>QeD rfl rfl (by omega)) rfl ?_|refine Qaj rfl rfl rfl (fun _ hS=>rfl) rfl ?_);exact zz.out):A:=k ⟨h⟩
theorem Zgv (h:B) (k:Zh B→A:=by intro zz;(first|refine Qa (Qb (k:=3) hS rfl rfl rfl (by first|exact .head|exact .tail .head|exact .tail (.tail .head)|exact .tail (.tail (.tail .head))|exact .tail (.tail (.tail (.tail .head)))|exact .tail (.tail (.tail (.tail (.tail .head))))) (by repeat constructor)) rfl ?_|refine Qa (Qb (k:=3) hS rfl rfl rfl (by first|exact .head|exact .tail .head|exact .tail (.tail .head)|exact .tail (.tail (.tail .head))|exact .tail (.tail (.tail (.tail .head)))|exact .tail (.tail (.tail (.tail (.tail .head))))) (by assumption)) rfl ?_|refine Qa (Qa4 rfl rfl rfl (by first|assumption|exact (hcell _ hS).1|exact (hcell _ hS).2.1|exact (hcell _ hS).2.2|exact (hll _ hS (by simp)).1|exact (hll _ hS (by simp)).2.1|exact (hll _ hS (by simp)).2.2|exact hS.cell0 (by assumption)) (by first|assumption|exact (hcell _ hS).1|exact (hcell _ hS).2.1|exact (hcell _ hS).2.2|exact (hll _ hS (by simp)).1|exact (hll _ hS (by simp)).2.1|exact (hll _ hS (by simp)).2.2|exact hS.cell0 (by assumption)) (by first|assumption|exact (hcell _ hS).1|exact (hcell _ hS).2.1|exact (hcell _ hS).2.2|exact (hll _ hS (by simp)).1|exact (hll _ hS (by simp)).2.1|exact (hll _ hS (by simp)).2.2|exact hS.cell0 (by assumption))) rfl ?_);exact zz.out):A:=k ⟨h⟩
theorem Zgw (h:B) (k:Zh B→A:=by intro zz;(first|refine Qd rfl (fun _ hS=>Qf hS rfl rfl (by first|exact .head|exact .tail .head|exact .tail (.tail .head)|exact .tail (.tail (.tail .head))|exact .tail (.tail (.tail (.tail .head)))|exact .tail (.tail (.tail (.tail (.tail .head))))) (by repeat constructor)) rfl ?_|refine Qd rfl (fun _ hS=>Qn rfl rfl (by first|assumption|exact (hcell _ hS).1|exact (hcell _ hS).2.1|exact (hcell _ hS).2.2|exact (hll _ hS (by simp)).1|exact (hll _ hS (by simp)).2.1|exact (hll _ hS (by simp)).2.2|exact hS.cell0 (by assumption)|exact Qx hS|exact Qy hS)) rfl ?_);exact zz.out):A:=k ⟨h⟩
theorem Zgx (h:B) (k:Zh B→A:=by intro zz;refine QaW (sz:=1) (bts:=8) hS (by conv=>lhs;whnf) rfl rfl rfl rfl (hrow) rfl rfl (.cons _ (List.perm_append_comm_assoc [_] O _)) (by omega) (by omega) rfl ?_;exact zz.out):A:=k ⟨h⟩
theorem Zgy (h:B) (k:Zh B→A:=by intro zz;refine QbP (Qd3 (by kernel_rfl) (Qvm (by conv=>lhs;whnf) (by conv=>lhs;whnf) (by conv=>lhs;whnf) (by conv=>lhs;whnf))) rfl ?_;exact zz.out):A:=k ⟨h⟩
theorem Zgz (h:B) (k:Zh B→A:=by intro zz;(first|refine Qa (Qf hS rfl rfl (by first|exact .head|exact .tail .head|exact .tail (.tail .head)|exact .tail (.tail (.tail .head))|exact .tail (.tail (.tail (.tail .head)))|exact .tail (.tail (.tail (.tail (.tail .head))))) (by repeat constructor)) rfl ?_|refine Qa (Qn rfl rfl (by first|assumption|exact hk _ hS|exact hg _ hS|exact hS.cell0 (by assumption)|exact Qx hS|exact Qy hS)) rfl ?_);exact zz.out):A:=k ⟨h⟩
theorem ZgA (h:B) (k:Zh B→A:=by intro zz;refine Qw (St _ _ _ _) 11 ((0,true)::(1,true)::(2,true)::(3,true)::(4,true)::(5,true)::(6,true)::(7,true)::(8,true)::(9,true)::(10,true)::[]) (by kernel_rfl) (by kernel_rfl) (hS.drew) ?_;exact zz.out):A:=k ⟨h⟩
theorem ZgB (h:B) (k:Zh B→A:=by intro zz;refine Qa (Qk4 (len:=7) (el:=9) (sz:=1) rfl rfl rfl rfl (by omega) (by omega)) rfl ?_;exact zz.out):A:=k ⟨h⟩
theorem ZgC (h:B) (k:Zh B→A:=by intro zz;(first|refine Qd rfl (fun _ hS=>Qb (k:=2) hS rfl rfl rfl (by first|exact .head|exact .tail .head|exact .tail (.tail .head)|exact .tail (.tail (.tail .head))|exact .tail (.tail (.tail (.tail .head)))|exact .tail (.tail (.tail (.tail (.tail .head))))) (by repeat constructor)) rfl ?_|refine Qd rfl (fun _ hS=>Qb (k:=2) hS rfl rfl rfl (by first|exact .head|exact .tail .head|exact .tail (.tail .head)|exact .tail (.tail (.tail .head))|exact .tail (.tail (.tail (.tail .head)))|exact .tail (.tail (.tail (.tail (.tail .head))))) (by assumption)) rfl ?_|refine Qd rfl (fun _ hS=>QaH rfl rfl rfl (by first|assumption|exact hS.cell0 (by assumption)) (by first|assumption|exact hS.cell0 (by assumption))) rfl ?_);exact zz.out):A:=k ⟨h⟩
theorem Zf (h:B) (k:Zh B→A:=by intro zz;refine Zm ?_;refine Zbb ?_;exact zz.out):A:=k ⟨h⟩
theorem Zc (h:B) (k:Zh B→A:=by intro zz;refine ZK ?_;refine Zb ?_;exact zz.out):A:=k ⟨h⟩
theorem Zl (h:B) (k:Zh B→A:=by intro zz;refine Zf ?_;refine Zg ?_;exact zz.out):A:=k ⟨h⟩
theorem ZG (h:B) (k:Zh B→A:=by intro zz;refine Zc ?_;refine Zm ?_;exact zz.out):A:=k ⟨h⟩
theorem ZH (h:B) (k:Zh B→A:=by intro zz;refine Zg ?_;refine Zw ?_;exact zz.out):A:=k ⟨h⟩
theorem Zb1 (h:B) (k:Zh B→A:=by intro zz;refine ZZ ?_;refine ZaJ ?_;exact zz.out):A:=k ⟨h⟩
theorem Zo (h:B) (k:Zh B→A:=by intro zz;refine Zb ?_;refine Zm ?_;exact zz.out):A:=k ⟨h⟩
theorem Zr (h:B) (k:Zh B→A:=by intro zz;refine Zb ?_;refine Zb1 ?_;exact zz.out):A:=k ⟨h⟩
theorem Zx (h:B) (k:Zh B→A:=by intro zz;refine Zb ?_;refine Zy ?_;exact zz.out):A:=k ⟨h⟩
theorem Zk (h:B) (k:Zh B→A:=by intro zz;refine Zf ?_;refine Zc ?_;exact zz.out):A:=k ⟨h⟩
theorem Zb2 (h:B) (k:Zh B→A:=by intro zz;refine Zn ?_;refine Zc ?_;exact zz.out):A:=k ⟨h⟩
theorem ZB (h:B) (k:Zh B→A:=by intro zz;refine ZG ?_;refine Zl ?_;exact zz.out):A:=k ⟨h⟩
theorem ZaN (h:B) (k:Zh B→A:=by intro zz;refine Zf ?_;refine Z9 ?_;exact zz.out):A:=k ⟨h⟩
theorem Zc2 (h:B) (k:Zh B→A:=by intro zz;refine Zf ?_;refine Zb2 ?_;exact zz.out):A:=k ⟨h⟩
theorem ZgD (h:B) (k:Zh B→A:=by intro zz;refine Zf ?_;refine Zq ?_;refine Zo ?_;exact zz.out):A:=k ⟨h⟩
theorem Zv (h:B) (k:Zh B→A:=by intro zz;refine Zl ?_;refine Zg ?_;exact zz.out):A:=k ⟨h⟩
theorem Z4 (h:B) (k:Zh B→A:=by intro zz;refine Zak ?_;refine Zak ?_;exact zz.out):A:=k ⟨h⟩
theorem ZgE (h:B) (k:Zh B→A:=by intro zz;refine Zg ?_;refine Zb ?_;exact zz.out):A:=k ⟨h⟩
theorem Z5 (h:B) (k:Zh B→A:=by intro zz;refine Zl ?_;refine Z6 ?_;exact zz.out):A:=k ⟨h⟩
theorem Zd (h:B) (k:Zh B→A:=by intro zz;refine Zf ?_;refine Zcj ?_;exact zz.out):A:=k ⟨h⟩
theorem Zp (h:B) (k:Zh B→A:=by intro zz;refine ZK ?_;refine Zc ?_;exact zz.out):A:=k ⟨h⟩
theorem ZM (h:B) (k:Zh B→A:=by intro zz;refine Zbb ?_;refine Zg ?_;exact zz.out):A:=k ⟨h⟩
theorem Zae (h:B) (k:Zh B→A:=by intro zz;refine Zc2 ?_;refine ZZ ?_;exact zz.out):A:=k ⟨h⟩
theorem Zcq (h:B) (k:Zh B→A:=by intro zz;refine ZaN ?_;refine Zu ?_;exact zz.out):A:=k ⟨h⟩
theorem Zaf (h:B) (k:Zh B→A:=by intro zz;refine ZO ?_;refine ZaK ?_;exact zz.out):A:=k ⟨h⟩
theorem ZI (h:B) (k:Zh B→A:=by intro zz;refine Z0 ?_;refine Zc ?_;exact zz.out):A:=k ⟨h⟩
theorem ZfA (h:B) (k:Zh B→A:=by intro zz;refine Zm ?_;refine Zbs ?_;exact zz.out):A:=k ⟨h⟩
theorem ZgF (h:B) (k:Zh B→A:=by intro zz;refine ZZ ?_;refine Zbt ?_;exact zz.out):A:=k ⟨h⟩
theorem ZeT (h:B) (k:Zh B→A:=by intro zz;refine ZaJ ?_;refine ZfA ?_;exact zz.out):A:=k ⟨h⟩
theorem Zan (h:B) (k:Zh B→A:=by intro zz;refine Zg ?_;refine Z4 ?_;exact zz.out):A:=k ⟨h⟩
theorem ZeU (h:B) (k:Zh B→A:=by intro zz;refine ZgD ?_;refine Zy ?_;refine ZeT ?_;exact zz.out):A:=k ⟨h⟩
theorem ZeV (h:B) (k:Zh B→A:=by intro zz;refine Zbb ?_;refine Zz ?_;refine ZgE ?_;exact zz.out):A:=k ⟨h⟩
theorem ZW (h:B) (k:Zh B→A:=by intro zz;refine Zr ?_;refine Zm ?_;exact zz.out):A:=k ⟨h⟩
theorem ZX (h:B) (k:Zh B→A:=by intro zz;refine Zl ?_;refine Zc ?_;exact zz.out):A:=k ⟨h⟩
theorem Zbz (h:B) (k:Zh B→A:=by intro zz;refine Zap ?_;refine ZeV ?_;exact zz.out):A:=k ⟨h⟩
theorem Zar (h:B) (k:Zh B→A:=by intro zz;refine ZH ?_;refine ZH ?_;exact zz.out):A:=k ⟨h⟩
theorem ZC (h:B) (k:Zh B→A:=by intro zz;refine ZgD ?_;refine ZgF ?_;exact zz.out):A:=k ⟨h⟩
theorem ZgG (h:B) (k:Zh B→A:=by intro zz;refine Zef ?_;refine Zef ?_;exact zz.out):A:=k ⟨h⟩
theorem ZaE (h:B) (k:Zh B→A:=by intro zz;refine Zg ?_;refine ZgG ?_;exact zz.out):A:=k ⟨h⟩
theorem ZbA (h:B) (k:Zh B→A:=by intro zz;refine Zb ?_;refine Zbs ?_;exact zz.out):A:=k ⟨h⟩
theorem ZaO (h:B) (k:Zh B→A:=by intro zz;refine Z0 ?_;refine Zx ?_;exact zz.out):A:=k ⟨h⟩
theorem Zd8 (h:B) (k:Zh B→A:=by intro zz;refine ZgE ?_;refine Zbs ?_;exact zz.out):A:=k ⟨h⟩
theorem Zcr (h:B) (k:Zh B→A:=by intro zz;refine Zw ?_;refine Zu ?_;refine Zw ?_;exact zz.out):A:=k ⟨h⟩
theorem Z2 (h:B) (k:Zh B→A:=by intro zz;refine ZL ?_;refine Zd8 ?_;exact zz.out):A:=k ⟨h⟩
theorem Zax (h:B) (k:Zh B→A:=by intro zz;refine Zf ?_;refine ZU ?_;exact zz.out):A:=k ⟨h⟩
theorem Zas (h:B) (k:Zh B→A:=by intro zz;refine Z5 ?_;refine Z9 ?_;exact zz.out):A:=k ⟨h⟩
theorem Zc3 (h:B) (k:Zh B→A:=by intro zz;refine ZG ?_;refine Zcq ?_;exact zz.out):A:=k ⟨h⟩
theorem ZN (h:B) (k:Zh B→A:=by intro zz;refine Zl ?_;refine Zj ?_;exact zz.out):A:=k ⟨h⟩
theorem ZQ (h:B) (k:Zh B→A:=by intro zz;refine Zf ?_;refine ZB ?_;exact zz.out):A:=k ⟨h⟩
theorem Zcs (h:B) (k:Zh B→A:=by intro zz;refine Zbc ?_;refine Zu ?_;exact zz.out):A:=k ⟨h⟩
theorem ZE (h:B) (k:Zh B→A:=by intro zz;refine Zg ?_;refine Zg ?_;exact zz.out):A:=k ⟨h⟩
theorem ZaF (h:B) (k:Zh B→A:=by intro zz;refine Zc2 ?_;refine Zy ?_;exact zz.out):A:=k ⟨h⟩
theorem Zay (h:B) (k:Zh B→A:=by intro zz;refine ZK ?_;refine ZB ?_;exact zz.out):A:=k ⟨h⟩
theorem Zct (h:B) (k:Zh B→A:=by intro zz;refine Zc3 ?_;refine ZbA ?_;exact zz.out):A:=k ⟨h⟩
theorem ZJ (h:B) (k:Zh B→A:=by intro zz;refine Za ?_;refine Zc ?_;exact zz.out):A:=k ⟨h⟩
theorem Zd9 (h:B) (k:Zh B→A:=by intro zz;refine ZaL ?_;refine Zc ?_;exact zz.out):A:=k ⟨h⟩
theorem ZT (h:B) (k:Zh B→A:=by intro zz;refine Zw ?_;refine ZH ?_;exact zz.out):A:=k ⟨h⟩
theorem Zb3 (h:B) (k:Zh B→A:=by intro zz;refine Zck ?_;refine Zu ?_;exact zz.out):A:=k ⟨h⟩
theorem ZY (h:B) (k:Zh B→A:=by intro zz;refine Zc ?_;refine Zl ?_;exact zz.out):A:=k ⟨h⟩
theorem Z3 (h:B) (k:Zh B→A:=by intro zz;refine Zan ?_;refine Z4 ?_;exact zz.out):A:=k ⟨h⟩
theorem Zbg (h:B) (k:Zh B→A:=by intro zz;refine ZV ?_;refine Zx ?_;exact zz.out):A:=k ⟨h⟩
theorem Zc4 (h:B) (k:Zh B→A:=by intro zz;refine Zct ?_;refine Zae ?_;exact zz.out):A:=k ⟨h⟩
theorem ZeW (h:B) (k:Zh B→A:=by intro zz;refine ZP ?_;refine Zb ?_;exact zz.out):A:=k ⟨h⟩
theorem Zea (h:B) (k:Zh B→A:=by intro zz;refine Zax ?_;refine Zu ?_;exact zz.out):A:=k ⟨h⟩
theorem Zaz (h:B) (k:Zh B→A:=by intro zz;refine Zaf ?_;refine Zaw ?_;exact zz.out):A:=k ⟨h⟩
theorem Zb4 (h:B) (k:Zh B→A:=by intro zz;refine ZR ?_;refine Zg ?_;exact zz.out):A:=k ⟨h⟩
theorem Zcu (h:B) (k:Zh B→A:=by intro zz;refine Zf ?_;refine Zd9 ?_;exact zz.out):A:=k ⟨h⟩
theorem Z7 (h:B) (k:Zh B→A:=by intro zz;refine ZM ?_;refine Zg ?_;exact zz.out):A:=k ⟨h⟩
theorem ZaG (h:B) (k:Zh B→A:=by intro zz;refine ZG ?_;refine Zbs ?_;exact zz.out):A:=k ⟨h⟩
theorem Z8 (h:B) (k:Zh B→A:=by intro zz;refine Zv ?_;refine Zi ?_;exact zz.out):A:=k ⟨h⟩
theorem ZaP (h:B) (k:Zh B→A:=by intro zz;refine ZeU ?_;refine Zl ?_;exact zz.out):A:=k ⟨h⟩
theorem ZaQ (h:B) (k:Zh B→A:=by intro zz;refine ZW ?_;refine Zl ?_;exact zz.out):A:=k ⟨h⟩
theorem Zc5 (h:B) (k:Zh B→A:=by intro zz;refine ZbQ ?_;refine ZeW ?_;exact zz.out):A:=k ⟨h⟩
theorem Zag (h:B) (k:Zh B→A:=by intro zz;refine Z0 ?_;refine Zr ?_;exact zz.out):A:=k ⟨h⟩
theorem Zah (h:B) (k:Zh B→A:=by intro zz;refine Z5 ?_;refine Zcs ?_;exact zz.out):A:=k ⟨h⟩
theorem Zeb (h:B) (k:Zh B→A:=by intro zz;refine ZU ?_;refine Zcr ?_;exact zz.out):A:=k ⟨h⟩
theorem ZfB (h:B) (k:Zh B→A:=by intro zz;refine ZeU ?_;refine Zf ?_;exact zz.out):A:=k ⟨h⟩
theorem Zai (h:B) (k:Zh B→A:=by intro zz;refine Zx ?_;refine Zk ?_;exact zz.out):A:=k ⟨h⟩
theorem ZaR (h:B) (k:Zh B→A:=by intro zz;refine ZaO ?_;refine Zf ?_;exact zz.out):A:=k ⟨h⟩
theorem Zaj (h:B) (k:Zh B→A:=by intro zz;refine ZaE ?_;refine Zef ?_;exact zz.out):A:=k ⟨h⟩
theorem Za3 (h:B) (k:Zh B→A:=by intro zz;refine Z6 ?_;refine Z9 ?_;exact zz.out):A:=k ⟨h⟩
theorem ZeX (h:B) (k:Zh B→A:=by intro zz;refine ZdJ ?_;refine Z1 ?_;exact zz.out):A:=k ⟨h⟩
theorem Za4 (h:B) (k:Zh B→A:=by intro zz;refine Zak ?_;refine ZI ?_;exact zz.out):A:=k ⟨h⟩
theorem Zc6 (h:B) (k:Zh B→A:=by intro zz;refine Zv ?_;refine Zg ?_;exact zz.out):A:=k ⟨h⟩
theorem Zb5 (h:B) (k:Zh B→A:=by intro zz;refine ZaF ?_;refine Zea ?_;exact zz.out):A:=k ⟨h⟩
theorem Zcv (h:B) (k:Zh B→A:=by intro zz;refine Zc4 ?_;refine Zae ?_;exact zz.out):A:=k ⟨h⟩
theorem Zao (h:B) (k:Zh B→A:=by intro zz;refine Zb ?_;refine Zbz ?_;exact zz.out):A:=k ⟨h⟩
theorem Zat (h:B) (k:Zh B→A:=by intro zz;refine ZO ?_;refine ZO ?_;exact zz.out):A:=k ⟨h⟩
theorem Zau (h:B) (k:Zh B→A:=by intro zz;refine Zg ?_;refine Zi ?_;exact zz.out):A:=k ⟨h⟩
theorem ZbB (h:B) (k:Zh B→A:=by intro zz;refine ZB ?_;refine Zq ?_;exact zz.out):A:=k ⟨h⟩
theorem Zav (h:B) (k:Zh B→A:=by intro zz;refine Zc ?_;refine Zbz ?_;exact zz.out):A:=k ⟨h⟩
theorem ZeY (h:B) (k:Zh B→A:=by intro zz;refine Zaw ?_;refine Zeg ?_;exact zz.out):A:=k ⟨h⟩
theorem ZbC (h:B) (k:Zh B→A:=by intro zz;refine Z6 ?_;refine ZU ?_;exact zz.out):A:=k ⟨h⟩
theorem ZaA (h:B) (k:Zh B→A:=by intro zz;refine ZV ?_;refine Zr ?_;exact zz.out):A:=k ⟨h⟩
theorem ZaB (h:B) (k:Zh B→A:=by intro zz;refine Zm ?_;refine Zl ?_;exact zz.out):A:=k ⟨h⟩
theorem ZaC (h:B) (k:Zh B→A:=by intro zz;refine ZL ?_;refine ZF ?_;exact zz.out):A:=k ⟨h⟩
theorem Zb6 (h:B) (k:Zh B→A:=by intro zz;refine Zay ?_;refine ZD ?_;exact zz.out):A:=k ⟨h⟩
theorem ZeZ (h:B) (k:Zh B→A:=by intro zz;refine Zcu ?_;refine ZZ ?_;exact zz.out):A:=k ⟨h⟩
theorem ZaH (h:B) (k:Zh B→A:=by intro zz;refine Zaf ?_;refine ZeX ?_;exact zz.out):A:=k ⟨h⟩
theorem Zcw (h:B) (k:Zh B→A:=by intro zz;refine Zw ?_;refine ZV ?_;exact zz.out):A:=k ⟨h⟩
theorem ZaI (h:B) (k:Zh B→A:=by intro zz;refine Z0 ?_;refine Zan ?_;exact zz.out):A:=k ⟨h⟩
theorem Zcx (h:B) (k:Zh B→A:=by intro zz;refine ZH ?_;refine Zeb ?_;exact zz.out):A:=k ⟨h⟩
theorem Ze0 (h:B) (k:Zh B→A:=by intro zz;refine Zb4 ?_;refine Zaa ?_;exact zz.out):A:=k ⟨h⟩
theorem ZaS (h:B) (k:Zh B→A:=by intro zz;refine Zas ?_;refine Zu ?_;exact zz.out):A:=k ⟨h⟩
theorem ZaT (h:B) (k:Zh B→A:=by intro zz;refine Zk ?_;refine Zl ?_;exact zz.out):A:=k ⟨h⟩
theorem ZaU (h:B) (k:Zh B→A:=by intro zz;refine ZeU ?_;refine ZX ?_;exact zz.out):A:=k ⟨h⟩
theorem ZaV (h:B) (k:Zh B→A:=by intro zz;refine Zb ?_;refine Zf ?_;exact zz.out):A:=k ⟨h⟩
theorem Zec (h:B) (k:Zh B→A:=by intro zz;refine ZL ?_;refine Zw ?_;exact zz.out):A:=k ⟨h⟩
theorem Ze1 (h:B) (k:Zh B→A:=by intro zz;refine ZZ ?_;refine Zcq ?_;exact zz.out):A:=k ⟨h⟩
theorem ZaW (h:B) (k:Zh B→A:=by intro zz;refine Zbg ?_;refine Zf ?_;exact zz.out):A:=k ⟨h⟩
theorem Za5 (h:B) (k:Zh B→A:=by intro zz;refine Zl ?_;refine Zi ?_;exact zz.out):A:=k ⟨h⟩
theorem Za6 (h:B) (k:Zh B→A:=by intro zz;refine Zx ?_;refine ZM ?_;exact zz.out):A:=k ⟨h⟩
theorem Za7 (h:B) (k:Zh B→A:=by intro zz;refine ZK ?_;refine Zp ?_;exact zz.out):A:=k ⟨h⟩
theorem Za8 (h:B) (k:Zh B→A:=by intro zz;refine ZaO ?_;refine Zk ?_;exact zz.out):A:=k ⟨h⟩
theorem Za9 (h:B) (k:Zh B→A:=by intro zz;refine ZL ?_;refine ZbR ?_;exact zz.out):A:=k ⟨h⟩
theorem Zc7 (h:B) (k:Zh B→A:=by intro zz;refine ZG ?_;refine Zm ?_;exact zz.out):A:=k ⟨h⟩
theorem Zba (h:B) (k:Zh B→A:=by intro zz;refine Zaq ?_;refine ZaX ?_;exact zz.out):A:=k ⟨h⟩
theorem Zbh (h:B) (k:Zh B→A:=by intro zz;refine Zb ?_;refine Zl ?_;exact zz.out):A:=k ⟨h⟩
theorem Zbi (h:B) (k:Zh B→A:=by intro zz;refine Zb ?_;refine Zk ?_;exact zz.out):A:=k ⟨h⟩
theorem Zbj (h:B) (k:Zh B→A:=by intro zz;refine Zb ?_;refine ZgF ?_;exact zz.out):A:=k ⟨h⟩
theorem Ze2 (h:B) (k:Zh B→A:=by intro zz;refine Zq ?_;refine Zar ?_;exact zz.out):A:=k ⟨h⟩
theorem Zbk (h:B) (k:Zh B→A:=by intro zz;refine Zb ?_;refine ZM ?_;exact zz.out):A:=k ⟨h⟩
theorem Zbl (h:B) (k:Zh B→A:=by intro zz;refine Z9 ?_;refine Zcr ?_;exact zz.out):A:=k ⟨h⟩
theorem Zbm (h:B) (k:Zh B→A:=by intro zz;refine Zb1 ?_;refine Zap ?_;exact zz.out):A:=k ⟨h⟩
theorem Zbn (h:B) (k:Zh B→A:=by intro zz;refine ZG ?_;refine Zf ?_;exact zz.out):A:=k ⟨h⟩
theorem Zbo (h:B) (k:Zh B→A:=by intro zz;refine Zcv ?_;refine Zae ?_;exact zz.out):A:=k ⟨h⟩
theorem Zbp (h:B) (k:Zh B→A:=by intro zz;refine ZK ?_;refine Ze ?_;exact zz.out):A:=k ⟨h⟩
theorem Zed (h:B) (k:Zh B→A:=by intro zz;refine Zc ?_;refine ZaN ?_;exact zz.out):A:=k ⟨h⟩
theorem Zbq (h:B) (k:Zh B→A:=by intro zz;refine Zw ?_;refine ZR ?_;exact zz.out):A:=k ⟨h⟩
theorem Ze3 (h:B) (k:Zh B→A:=by intro zz;refine Z9 ?_;refine Ze0 ?_;exact zz.out):A:=k ⟨h⟩
theorem Ze4 (h:B) (k:Zh B→A:=by intro zz;refine Zg ?_;refine ZA ?_;exact zz.out):A:=k ⟨h⟩
theorem Zbr (h:B) (k:Zh B→A:=by intro zz;refine Zv ?_;refine Zz ?_;exact zz.out):A:=k ⟨h⟩
theorem Zee (h:B) (k:Zh B→A:=by intro zz;refine Zab ?_;refine Ze ?_;exact zz.out):A:=k ⟨h⟩
theorem ZbD (h:B) (k:Zh B→A:=by intro zz;refine Zb ?_;refine Zv ?_;exact zz.out):A:=k ⟨h⟩
theorem ZbE (h:B) (k:Zh B→A:=by intro zz;refine Z6 ?_;refine Zck ?_;exact zz.out):A:=k ⟨h⟩
theorem ZbF (h:B) (k:Zh B→A:=by intro zz;refine ZP ?_;refine Zs ?_;exact zz.out):A:=k ⟨h⟩
theorem ZbG (h:B) (k:Zh B→A:=by intro zz;refine ZgL ?_;refine Ze ?_;exact zz.out):A:=k ⟨h⟩
theorem ZbH (h:B) (k:Zh B→A:=by intro zz;refine Zb ?_;refine ZgM ?_;exact zz.out):A:=k ⟨h⟩
theorem ZbI (h:B) (k:Zh B→A:=by intro zz;refine ZI ?_;refine Zy ?_;exact zz.out):A:=k ⟨h⟩
theorem ZbJ (h:B) (k:Zh B→A:=by intro zz;refine Zc ?_;refine Zf ?_;exact zz.out):A:=k ⟨h⟩
theorem ZbK (h:B) (k:Zh B→A:=by intro zz;refine Ze1 ?_;refine Zb2 ?_;exact zz.out):A:=k ⟨h⟩
theorem ZfC (h:B) (k:Zh B→A:=by intro zz;refine Zb5 ?_;refine Zad ?_;exact zz.out):A:=k ⟨h⟩
theorem ZbL (h:B) (k:Zh B→A:=by intro zz;refine ZaN ?_;refine ZR ?_;exact zz.out):A:=k ⟨h⟩
theorem ZbM (h:B) (k:Zh B→A:=by intro zz;refine ZV ?_;refine ZW ?_;exact zz.out):A:=k ⟨h⟩
theorem ZbN (h:B) (k:Zh B→A:=by intro zz;refine ZfB ?_;refine ZA ?_;exact zz.out):A:=k ⟨h⟩
theorem ZbO (h:B) (k:Zh B→A:=by intro zz;refine ZB ?_;refine Z2 ?_;exact zz.out):A:=k ⟨h⟩
theorem ZbP (h:B) (k:Zh B→A:=by intro zz;refine Zg ?_;refine Zz ?_;exact zz.out):A:=k ⟨h⟩
theorem Zb7 (h:B) (k:Zh B→A:=by intro zz;refine ZaJ ?_;refine Zbs ?_;exact zz.out):A:=k ⟨h⟩
theorem Zb8 (h:B) (k:Zh B→A:=by intro zz;refine Z5 ?_;refine Zb3 ?_;exact zz.out):A:=k ⟨h⟩
theorem ZgH (h:B) (k:Zh B→A:=by intro zz;refine Z6 ?_;refine Zw ?_;exact zz.out):A:=k ⟨h⟩
theorem Zb9 (h:B) (k:Zh B→A:=by intro zz;refine ZgN ?_;refine Ze ?_;exact zz.out):A:=k ⟨h⟩
theorem Zca (h:B) (k:Zh B→A:=by intro zz;refine Z5 ?_;refine Zbc ?_;exact zz.out):A:=k ⟨h⟩
theorem Zcb (h:B) (k:Zh B→A:=by intro zz;refine Z0 ?_;refine Zar ?_;exact zz.out):A:=k ⟨h⟩
theorem Zcc (h:B) (k:Zh B→A:=by intro zz;refine Zec ?_;refine ZF ?_;exact zz.out):A:=k ⟨h⟩
theorem Zcd (h:B) (k:Zh B→A:=by intro zz;refine ZL ?_;refine Zn ?_;exact zz.out):A:=k ⟨h⟩
theorem Zce (h:B) (k:Zh B→A:=by intro zz;refine Ze5 ?_;refine Zac ?_;exact zz.out):A:=k ⟨h⟩
theorem Zcf (h:B) (k:Zh B→A:=by intro zz;refine Zg ?_;refine ZL ?_;exact zz.out):A:=k ⟨h⟩
theorem Zcg (h:B) (k:Zh B→A:=by intro zz;refine Zr ?_;refine Zbz ?_;exact zz.out):A:=k ⟨h⟩
theorem Zch (h:B) (k:Zh B→A:=by intro zz;refine ZC ?_;refine ZX ?_;exact zz.out):A:=k ⟨h⟩
theorem Zci (h:B) (k:Zh B→A:=by intro zz;refine Z6 ?_;refine Zb3 ?_;exact zz.out):A:=k ⟨h⟩
theorem ZfD (h:B) (k:Zh B→A:=by intro zz;refine ZdK ?_;refine Zeg ?_;exact zz.out):A:=k ⟨h⟩
theorem Zcy (h:B) (k:Zh B→A:=by intro zz;refine ZU ?_;refine Zu ?_;exact zz.out):A:=k ⟨h⟩
theorem Zcz (h:B) (k:Zh B→A:=by intro zz;refine Zb ?_;refine ZX ?_;exact zz.out):A:=k ⟨h⟩
theorem ZcA (h:B) (k:Zh B→A:=by intro zz;refine ZbB ?_;refine Zr ?_;exact zz.out):A:=k ⟨h⟩
theorem ZcB (h:B) (k:Zh B→A:=by intro zz;refine Zar ?_;refine ZgH ?_;exact zz.out):A:=k ⟨h⟩
theorem ZcC (h:B) (k:Zh B→A:=by intro zz;refine ZbQ ?_;refine Zc5 ?_;exact zz.out):A:=k ⟨h⟩
theorem ZgI (h:B) (k:Zh B→A:=by intro zz;refine Zbc ?_;refine Zcr ?_;exact zz.out):A:=k ⟨h⟩
theorem ZcD (h:B) (k:Zh B→A:=by intro zz;refine Zcw ?_;refine Z0 ?_;exact zz.out):A:=k ⟨h⟩
theorem ZcE (h:B) (k:Zh B→A:=by intro zz;refine ZO ?_;refine Zaf ?_;exact zz.out):A:=k ⟨h⟩
theorem ZcF (h:B) (k:Zh B→A:=by intro zz;refine Zf ?_;refine Zcs ?_;exact zz.out):A:=k ⟨h⟩
theorem ZcG (h:B) (k:Zh B→A:=by intro zz;refine Zt ?_;refine Zi ?_;exact zz.out):A:=k ⟨h⟩
theorem ZcH (h:B) (k:Zh B→A:=by intro zz;refine ZaG ?_;refine Zcq ?_;refine Zn ?_;exact zz.out):A:=k ⟨h⟩
theorem ZcI (h:B) (k:Zh B→A:=by intro zz;refine Zcl ?_;refine Zcl ?_;exact zz.out):A:=k ⟨h⟩
theorem ZcJ (h:B) (k:Zh B→A:=by intro zz;refine ZfB ?_;refine Zbu ?_;exact zz.out):A:=k ⟨h⟩
theorem ZcK (h:B) (k:Zh B→A:=by intro zz;refine ZfC ?_;refine Zcx ?_;exact zz.out):A:=k ⟨h⟩
theorem ZgJ (h:B) (k:Zh B→A:=by intro zz;refine ZdL ?_;refine Ze4 ?_;exact zz.out):A:=k ⟨h⟩
theorem ZcL (h:B) (k:Zh B→A:=by intro zz;refine ZaP ?_;refine ZA ?_;exact zz.out):A:=k ⟨h⟩
theorem ZcM (h:B) (k:Zh B→A:=by intro zz;refine ZaE ?_;refine Zb6 ?_;exact zz.out):A:=k ⟨h⟩
theorem ZcN (h:B) (k:Zh B→A:=by intro zz;refine ZaQ ?_;refine Ze2 ?_;exact zz.out):A:=k ⟨h⟩
theorem ZcO (h:B) (k:Zh B→A:=by intro zz;refine Zas ?_;refine Ze3 ?_;exact zz.out):A:=k ⟨h⟩
theorem ZcP (h:B) (k:Zh B→A:=by intro zz;refine Zp ?_;refine ZgO ?_;exact zz.out):A:=k ⟨h⟩
theorem ZcQ (h:B) (k:Zh B→A:=by intro zz;refine Zc ?_;refine ZgP ?_;exact zz.out):A:=k ⟨h⟩
theorem ZcR (h:B) (k:Zh B→A:=by intro zz;refine Zx ?_;refine Zl ?_;exact zz.out):A:=k ⟨h⟩
theorem ZgK (h:B) (k:Zh B→A:=by intro zz;refine Zaz ?_;refine ZeY ?_;exact zz.out):A:=k ⟨h⟩
theorem Zc8 (h:B) (k:Zh B→A:=by intro zz;refine Zf ?_;refine Zp ?_;exact zz.out):A:=k ⟨h⟩
theorem Zc9 (h:B) (k:Zh B→A:=by intro zz;refine ZbC ?_;refine Zs ?_;exact zz.out):A:=k ⟨h⟩
theorem Zda (h:B) (k:Zh B→A:=by intro zz;refine Zk ?_;refine ZN ?_;exact zz.out):A:=k ⟨h⟩
theorem Zdb (h:B) (k:Zh B→A:=by intro zz;refine Zc5 ?_;refine ZgQ ?_;exact zz.out):A:=k ⟨h⟩
theorem Zdc (h:B) (k:Zh B→A:=by intro zz;refine Zm ?_;refine Zv ?_;exact zz.out):A:=k ⟨h⟩
theorem Zdd (h:B) (k:Zh B→A:=by intro zz;refine Zl ?_;refine Ze6 ?_;exact zz.out):A:=k ⟨h⟩
theorem Zde (h:B) (k:Zh B→A:=by intro zz;refine ZQ ?_;refine Z2 ?_;exact zz.out):A:=k ⟨h⟩
theorem Zdf (h:B) (k:Zh B→A:=by intro zz;refine ZC ?_;refine Zk ?_;exact zz.out):A:=k ⟨h⟩
theorem Zdg (h:B) (k:Zh B→A:=by intro zz;refine Z6 ?_;refine Zbc ?_;exact zz.out):A:=k ⟨h⟩
theorem Zdh (h:B) (k:Zh B→A:=by intro zz;refine Zaf ?_;refine Ze7 ?_;exact zz.out):A:=k ⟨h⟩
theorem Zdi (h:B) (k:Zh B→A:=by intro zz;refine ZdK ?_;refine Z1 ?_;exact zz.out):A:=k ⟨h⟩
theorem Zdj (h:B) (k:Zh B→A:=by intro zz;refine ZV ?_;refine Zar ?_;exact zz.out):A:=k ⟨h⟩
theorem Zdk (h:B) (k:Zh B→A:=by intro zz;refine ZgR ?_;refine Ze8 ?_;exact zz.out):A:=k ⟨h⟩
theorem Zdl (h:B) (k:Zh B→A:=by intro zz;refine Zw ?_;refine Z0 ?_;exact zz.out):A:=k ⟨h⟩
theorem Zdm (h:B) (k:Zh B→A:=by intro zz;refine ZD ?_;refine ZH ?_;exact zz.out):A:=k ⟨h⟩
theorem Zdn (h:B) (k:Zh B→A:=by intro zz;refine Zk ?_;refine ZfE ?_;exact zz.out):A:=k ⟨h⟩
theorem Zdo (h:B) (k:Zh B→A:=by intro zz;refine Zaq ?_;refine Zj ?_;exact zz.out):A:=k ⟨h⟩
theorem Zdp (h:B) (k:Zh B→A:=by intro zz;refine ZH ?_;refine ZgI ?_;exact zz.out):A:=k ⟨h⟩
theorem Zdq (h:B) (k:Zh B→A:=by intro zz;refine ZI ?_;refine ZdM ?_;exact zz.out):A:=k ⟨h⟩
theorem Zdr (h:B) (k:Zh B→A:=by intro zz;refine Za4 ?_;refine ZdM ?_;exact zz.out):A:=k ⟨h⟩
theorem Zds (h:B) (k:Zh B→A:=by intro zz;refine ZdN ?_;refine Z0 ?_;exact zz.out):A:=k ⟨h⟩
theorem Zdt (h:B) (k:Zh B→A:=by intro zz;refine ZgJ ?_;refine ZdL ?_;exact zz.out):A:=k ⟨h⟩
theorem Zdu (h:B) (k:Zh B→A:=by intro zz;refine Zj ?_;refine ZgS ?_;exact zz.out):A:=k ⟨h⟩
theorem Zdv (h:B) (k:Zh B→A:=by intro zz;refine ZcS ?_;refine Ze ?_;exact zz.out):A:=k ⟨h⟩
theorem Zdw (h:B) (k:Zh B→A:=by intro zz;refine ZaR ?_;refine Zee ?_;exact zz.out):A:=k ⟨h⟩
theorem Zdx (h:B) (k:Zh B→A:=by intro zz;refine Zc6 ?_;refine Zz ?_;exact zz.out):A:=k ⟨h⟩
theorem Zdy (h:B) (k:Zh B→A:=by intro zz;refine Z9 ?_;refine Zw ?_;exact zz.out):A:=k ⟨h⟩
theorem Zdz (h:B) (k:Zh B→A:=by intro zz;refine Zc6 ?_;refine Zal ?_;exact zz.out):A:=k ⟨h⟩
theorem ZdA (h:B) (k:Zh B→A:=by intro zz;refine ZaE ?_;refine ZS ?_;exact zz.out):A:=k ⟨h⟩
theorem ZdB (h:B) (k:Zh B→A:=by intro zz;refine Zo ?_;refine Zcq ?_;exact zz.out):A:=k ⟨h⟩
theorem ZdC (h:B) (k:Zh B→A:=by intro zz;refine Za3 ?_;refine Ze ?_;exact zz.out):A:=k ⟨h⟩
theorem ZdD (h:B) (k:Zh B→A:=by intro zz;refine Zed ?_;refine ZgT ?_;refine Zz ?_;refine Zc7 ?_;refine ZfF ?_;exact zz.out):A:=k ⟨h⟩
theorem ZdE (h:B) (k:Zh B→A:=by intro zz;refine ZgK ?_;refine ZeY ?_;refine ZaY ?_;refine ZfD ?_;refine ZP ?_;refine ZbA ?_;exact zz.out):A:=k ⟨h⟩
theorem ZdF (h:B) (k:Zh B→A:=by intro zz;refine ZeZ ?_;refine ZeZ ?_;exact zz.out):A:=k ⟨h⟩
theorem ZdG (h:B) (k:Zh B→A:=by intro zz;refine Z6 ?_;refine ZfG ?_;exact zz.out):A:=k ⟨h⟩
theorem ZdH (h:B) (k:Zh B→A:=by intro zz;refine Zp ?_;refine ZgU ?_;exact zz.out):A:=k ⟨h⟩
theorem ZdI (h:B) (k:Zh B→A:=by intro zz;refine ZaN ?_;refine ZcT ?_;exact zz.out):A:=k ⟨h⟩
theorem Ya (k:A:=by omega):A:=k
theorem Yb (k:A:=by conv=>lhs;whnf):A:=k
theorem Yc (k:A:=by kernel_rfl):A:=k
theorem Yd (k:A:=by simp):A:=k
theorem Ye (k:A:=by assumption):A:=k
theorem Yf (k:A:=by repeat constructor):A:=k
theorem Yg (k:A:=by decide):A:=k
theorem Yh (k:A:=by simp;omega):A:=k
theorem Yi (k:A:=by simp only [Ts.nodes];omega):A:=k
theorem Yj (k:A:=by simp only [List.length_append,List.length_cons,List.length_nil];omega):A:=k
theorem Yk (k:A:=by simp only [maxLen];omega):A:=k
end Go.Proofs.YthliapbflkfdiacGreatDoor
