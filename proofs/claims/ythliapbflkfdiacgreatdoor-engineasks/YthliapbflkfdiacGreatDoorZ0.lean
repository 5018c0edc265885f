/-
  Steps that the walks repeat: each theorem's last premise is proved by its rows where it is used.
-/
import Derived.KernelRfl
namespace Go.Proofs.YthliapbflkfdiacGreatDoor
structure Zh (B:Prop):Prop where
 out:B
variable {A B:Prop}
theorem Zp (h:B) (k:Zh B→A:=by intro zz;refine Qw7 ?_;exact zz.out):A:=k ⟨h⟩
theorem Zb (h:B) (k:Zh B→A:=by intro zz;refine QwP ?_;exact zz.out):A:=k ⟨h⟩
theorem Zf (h:B) (k:Zh B→A:=by intro zz;refine Qa (QgF (by conv=>lhs;whnf)) rfl ?_;exact zz.out):A:=k ⟨h⟩
theorem Zbe (h:B) (k:Zh B→A:=by intro zz;refine Qp2 ?_;exact zz.out):A:=k ⟨h⟩
theorem ZdT (h:B) (k:Zh B→A:=by intro zz;refine Qa (Qfr (by conv=>lhs;whnf)) rfl ?_;exact zz.out):A:=k ⟨h⟩
theorem Zm (h:B) (k:Zh B→A:=by intro zz;refine QuO rfl rfl ?_;exact zz.out):A:=k ⟨h⟩
theorem ZaV (h:B) (k:Zh B→A:=by intro zz;refine QwO rfl rfl rfl ?_;exact zz.out):A:=k ⟨h⟩
theorem Zcd (h:B) (k:Zh B→A:=by intro zz;refine QlN rfl ?_;exact zz.out):A:=k ⟨h⟩
theorem Za (h:B) (k:Zh B→A:=by intro zz;refine ⟨_,rfl,?_⟩;exact zz.out):A:=k ⟨h⟩
theorem ZQ (h:B) (k:Zh B→A:=by intro zz;(first|refine Qa (Qk4 rfl (by conv=>lhs;whnf)) rfl ?_|refine Qa (Qk5 rfl (by conv=>lhs;whnf)) rfl ?_);exact zz.out):A:=k ⟨h⟩
theorem Z2 (h:B) (k:Zh B→A:=by intro zz;refine QoA rfl ?_;exact zz.out):A:=k ⟨h⟩
theorem Zbn (h:B) (k:Zh B→A:=by intro zz;refine Qvb ?_;exact zz.out):A:=k ⟨h⟩
theorem ZR (h:B) (k:Zh B→A:=by intro zz;refine Qa (Qbm rfl) rfl ?_;exact zz.out):A:=k ⟨h⟩
theorem Zq (h:B) (k:Zh B→A:=by intro zz;(first|refine Qa (Qf hS rfl rfl (by first|exact .head|exact .tail .head|exact .tail (.tail .head)|exact .tail (.tail (.tail .head))|exact .tail (.tail (.tail (.tail .head)))|exact .tail (.tail (.tail (.tail (.tail .head))))) (by repeat constructor)) rfl ?_|refine Qa (Qm rfl rfl (by first|assumption|exact hS.cell0 (by assumption)|exact Qt hS|exact Qu hS)) rfl ?_);exact zz.out):A:=k ⟨h⟩
theorem Zar (h:B) (k:Zh B→A:=by intro zz;refine Qa (Qi (off:=0) rfl rfl) rfl ?_;exact zz.out):A:=k ⟨h⟩
theorem Za9 (h:B) (k:Zh B→A:=by intro zz;refine QsQ ?_;exact zz.out):A:=k ⟨h⟩
theorem Zr (h:B) (k:Zh B→A:=by intro zz;(first|refine Qa (Qb4 rfl rfl) rfl ?_|refine Qa (Qht rfl rfl (by first|assumption|omega)) rfl ?_|refine Qa (Qf9 rfl rfl (by omega)) rfl ?_|refine Qa (rfl) rfl ?_);exact zz.out):A:=k ⟨h⟩
theorem Zc (h:B) (k:Zh B→A:=by intro zz;refine Qfy hS rfl (by conv=>lhs;whnf) rfl rfl (by first|exact .head|exact .tail .head|exact .tail (.tail .head)|exact .tail (.tail (.tail .head))|exact .tail (.tail (.tail (.tail .head)))|exact .tail (.tail (.tail (.tail (.tail .head))))) (by repeat constructor) (by first|exact .head|exact .tail .head|exact .tail (.tail .head)|exact .tail (.tail (.tail .head))|exact .tail (.tail (.tail (.tail .head)))|exact .tail (.tail (.tail (.tail (.tail .head))))) ?_;exact zz.out):A:=k ⟨h⟩
theorem Zs (h:B) (k:Zh B→A:=by intro zz;(first|refine Qa (Qpt rfl rfl (by omega)) rfl ?_|refine Qa (Qsk rfl rfl (by omega)) rfl ?_|refine Qa (rfl) rfl ?_);exact zz.out):A:=k ⟨h⟩
theorem Ze (h:B) (k:Zh B→A:=by intro zz;refine QcH (Qfq (by kernel_rfl) (QxR (by conv=>lhs;whnf) (by conv=>lhs;whnf))) rfl ?_;exact zz.out):A:=k ⟨h⟩
theorem Zv (h:B) (k:Zh B→A:=by intro zz;refine Qa (QtY rfl rfl (by omega) (by omega)) rfl ?_;exact zz.out):A:=k ⟨h⟩
theorem ZS (h:B) (k:Zh B→A:=by intro zz;refine Qa (Qc8 rfl rfl rfl) rfl ?_;exact zz.out):A:=k ⟨h⟩
theorem Z7 (h:B) (k:Zh B→A:=by intro zz;refine Qa (Qi (off:=1) rfl rfl) rfl ?_;exact zz.out):A:=k ⟨h⟩
theorem ZK (h:B) (k:Zh B→A:=by intro zz;refine Qe rfl (fun _ hS=>QgF (by conv=>lhs;whnf)) rfl ?_;exact zz.out):A:=k ⟨h⟩
theorem Zah (h:B) (k:Zh B→A:=by intro zz;refine Qa (Qi (off:=2) rfl rfl) rfl ?_;exact zz.out):A:=k ⟨h⟩
theorem Zhk (h:B) (k:Zh B→A:=by intro zz;refine Qa (Qjy rfl rfl) rfl ?_;exact zz.out):A:=k ⟨h⟩
theorem Zj (h:B) (k:Zh B→A:=by intro zz;refine QcH (Qfq (by kernel_rfl) (QrM (by conv=>lhs;whnf))) rfl ?_;exact zz.out):A:=k ⟨h⟩
theorem ZaM (h:B) (k:Zh B→A:=by intro zz;refine QoD ?_;exact zz.out):A:=k ⟨h⟩
theorem ZL (h:B) (k:Zh B→A:=by intro zz;refine Qa (rfl) rfl ?_;exact zz.out):A:=k ⟨h⟩
theorem Zay (h:B) (k:Zh B→A:=by intro zz;refine QwG rfl ?_;exact zz.out):A:=k ⟨h⟩
theorem ZaW (h:B) (k:Zh B→A:=by intro zz;refine Qvc rfl ?_;exact zz.out):A:=k ⟨h⟩
theorem ZM (h:B) (k:Zh B→A:=by intro zz;refine QcT (by first|exact hS|exact hS.drop|exact hS.drop.drop|exact hS.drop.drop.drop|exact hS.unlearn|exact hS.unlearn.drop|exact hS.unlearn.drop.drop) ?_;exact zz.out):A:=k ⟨h⟩
theorem ZY (h:B) (k:Zh B→A:=by intro zz;refine Qdp (cs:=[_,_,_,_]) hS rfl rfl rfl ?_;exact zz.out):A:=k ⟨h⟩
theorem Zy (h:B) (k:Zh B→A:=by intro zz;refine Qay hS rfl (by conv=>lhs;whnf) rfl rfl (by first|exact .head|exact .tail .head|exact .tail (.tail .head)|exact .tail (.tail (.tail .head))|exact .tail (.tail (.tail (.tail .head)))|exact .tail (.tail (.tail (.tail (.tail .head))))) (by repeat constructor) (by first|exact .head|exact .tail .head|exact .tail (.tail .head)|exact .tail (.tail (.tail .head))|exact .tail (.tail (.tail (.tail .head)))|exact .tail (.tail (.tail (.tail (.tail .head))))) ?_;exact zz.out):A:=k ⟨h⟩
theorem ZdU (h:B) (k:Zh B→A:=by intro zz;refine QuN rfl rfl ?_;exact zz.out):A:=k ⟨h⟩
theorem ZaX (h:B) (k:Zh B→A:=by intro zz;refine QyF hS rfl rfl ?_;exact zz.out):A:=k ⟨h⟩
theorem ZZ (h:B) (k:Zh B→A:=by intro zz;(first|refine Qa (Qla rfl rfl (by assumption)) rfl ?_|refine Qa (Qlb rfl rfl (by assumption)) rfl ?_|refine Qa (Qjz rfl rfl) rfl ?_|refine Qa (rfl) rfl ?_);exact zz.out):A:=k ⟨h⟩
theorem ZO (h:B) (k:Zh B→A:=by intro zz;(first|refine Qa (Qjx rfl rfl (by omega)) rfl ?_|refine Qa (Qk9 rfl rfl (by omega)) rfl ?_|refine Qa (rfl) rfl ?_);exact zz.out):A:=k ⟨h⟩
theorem Zw (h:B) (k:Zh B→A:=by intro zz;(first|refine Qa (Qjw rfl rfl (by omega)) rfl ?_|refine Qa (Qk8 rfl rfl (by omega)) rfl ?_|refine Qa (rfl) rfl ?_);exact zz.out):A:=k ⟨h⟩
theorem Zz (h:B) (k:Zh B→A:=by intro zz;(first|refine Qa (Qe1 rfl rfl) rfl ?_|refine Qa (Qsj rfl rfl (by first|assumption|omega)) rfl ?_|refine Qa (Qps rfl rfl (by omega)) rfl ?_|refine Qa (rfl) rfl ?_);exact zz.out):A:=k ⟨h⟩
theorem Zbo (h:B) (k:Zh B→A:=by intro zz;refine Qe rfl (fun _ hS=>Qbm rfl) rfl ?_;exact zz.out):A:=k ⟨h⟩
theorem Zas (h:B) (k:Zh B→A:=by intro zz;(first|refine Qa (Qf hS rfl rfl (by first|exact .head|exact .tail .head|exact .tail (.tail .head)|exact .tail (.tail (.tail .head))|exact .tail (.tail (.tail (.tail .head)))|exact .tail (.tail (.tail (.tail (.tail .head))))) (by repeat constructor)) rfl ?_|refine Qa (Qm rfl rfl (by first|assumption|exact (hcc _ hS).1|exact (hcc _ hS).2.1|exact (hcc _ hS).2.2.1|exact (hcc _ hS).2.2.2|exact hS.cell0 (by assumption)|exact Qt hS|exact Qu hS)) rfl ?_);exact zz.out):A:=k ⟨h⟩
theorem Zae (h:B) (k:Zh B→A:=by intro zz;refine Qyw ?_;exact zz.out):A:=k ⟨h⟩
theorem Zaz (h:B) (k:Zh B→A:=by intro zz;refine Qe rfl (fun _ hS=>Qi (off:=0) rfl rfl) rfl ?_;exact zz.out):A:=k ⟨h⟩
theorem ZB (h:B) (k:Zh B→A:=by intro zz;(first|refine Qa (Qf hS rfl rfl (by first|exact .head|exact .tail .head|exact .tail (.tail .head)|exact .tail (.tail (.tail .head))|exact .tail (.tail (.tail (.tail .head)))|exact .tail (.tail (.tail (.tail (.tail .head))))) (by repeat constructor)) rfl ?_|refine Qa (Qm rfl rfl (by first|assumption|exact (hcc _ hS).1|exact (hcc _ hS).2.1|exact (hcc _ hS).2.2|exact hS.cell0 (by assumption)|exact Qt hS|exact Qu hS)) rfl ?_);exact zz.out):A:=k ⟨h⟩
theorem ZI (h:B) (k:Zh B→A:=by intro zz;refine Qa (Q0 (sz:=1) rfl rfl rfl rfl (by omega) (by omega)) rfl ?_;exact zz.out):A:=k ⟨h⟩
theorem Zbf (h:B) (k:Zh B→A:=by intro zz;(first|refine Qa (QtV rfl rfl (by omega) (by omega)) rfl ?_|refine Qa (Qk2 rfl rfl) rfl ?_);exact zz.out):A:=k ⟨h⟩
theorem Zat (h:B) (k:Zh B→A:=by intro zz;refine Qa (Qi (off:=3) rfl rfl) rfl ?_;exact zz.out):A:=k ⟨h⟩
theorem Zgq (h:B) (k:Zh B→A:=by intro zz;refine QwF ?_;exact zz.out):A:=k ⟨h⟩
theorem Zba (h:B) (k:Zh B→A:=by intro zz;refine Qa (Qpv rfl rfl rfl) rfl ?_;exact zz.out):A:=k ⟨h⟩
theorem Zaf (h:B) (k:Zh B→A:=by intro zz;(first|refine Qe rfl (fun _ hS=>Qf hS rfl rfl (by first|exact .head|exact .tail .head|exact .tail (.tail .head)|exact .tail (.tail (.tail .head))|exact .tail (.tail (.tail (.tail .head)))|exact .tail (.tail (.tail (.tail (.tail .head))))) (by repeat constructor)) rfl ?_|refine Qe rfl (fun _ hS=>Qm rfl rfl (by first|assumption|exact hS.cell0 (by assumption)|exact Qt hS|exact Qu hS)) rfl ?_);exact zz.out):A:=k ⟨h⟩
theorem Zhl (h:B) (k:Zh B→A:=by intro zz;refine Qa (Qme rfl rfl rfl (by omega) (by first|rfl|assumption)) rfl ?_;exact zz.out):A:=k ⟨h⟩
theorem ZE (h:B) (k:Zh B→A:=by intro zz;refine Qyx rfl ?_;exact zz.out):A:=k ⟨h⟩
theorem ZbR (h:B) (k:Zh B→A:=by intro zz;refine Qj rfl (fun _ hS=>QgF (by conv=>lhs;whnf)) rfl ?_;exact zz.out):A:=k ⟨h⟩
theorem ZaY (h:B) (k:Zh B→A:=by intro zz;refine QcH (Qfq (by kernel_rfl) (QxQ (by conv=>lhs;whnf) (by conv=>lhs;whnf) (by conv=>lhs;whnf))) rfl ?_;exact zz.out):A:=k ⟨h⟩
theorem ZaC (h:B) (k:Zh B→A:=by intro zz;refine QaF (cells:=[_]) hS (.cons (by conv=>lhs;whnf) .nil) rfl rfl ?_;exact zz.out):A:=k ⟨h⟩
theorem Zc3 (h:B) (k:Zh B→A:=by intro zz;refine Qe rfl (fun _ hS=>Qfr (by conv=>lhs;whnf)) rfl ?_;exact zz.out):A:=k ⟨h⟩
theorem Zhm (h:B) (k:Zh B→A:=by intro zz;refine QwH rfl rfl rfl rfl ?_;exact zz.out):A:=k ⟨h⟩
theorem ZdV (h:B) (k:Zh B→A:=by intro zz;refine QcH (QnH rfl (by kernel_rfl) (QrM (by conv=>lhs;whnf))) rfl ?_;exact zz.out):A:=k ⟨h⟩
theorem ZaD (h:B) (k:Zh B→A:=by intro zz;refine Qa (Q0 (sz:=3) rfl rfl rfl rfl (by omega) (by omega)) rfl ?_;exact zz.out):A:=k ⟨h⟩
theorem Zau (h:B) (k:Zh B→A:=by intro zz;(first|refine Qa (Qb (k:=2) hS rfl rfl rfl (by first|exact .head|exact .tail .head|exact .tail (.tail .head)|exact .tail (.tail (.tail .head))|exact .tail (.tail (.tail (.tail .head)))|exact .tail (.tail (.tail (.tail (.tail .head))))) (by repeat constructor)) rfl ?_|refine Qa (Qb (k:=2) hS rfl rfl rfl (by first|exact .head|exact .tail .head|exact .tail (.tail .head)|exact .tail (.tail (.tail .head))|exact .tail (.tail (.tail (.tail .head)))|exact .tail (.tail (.tail (.tail (.tail .head))))) (by assumption)) rfl ?_|refine Qa (Qbn rfl rfl rfl (by first|assumption|exact hS.cell0 (by assumption)) (by first|assumption|exact hS.cell0 (by assumption))) rfl ?_);exact zz.out):A:=k ⟨h⟩
theorem ZeR (h:B) (k:Zh B→A:=by intro zz;refine Qe rfl (fun _ hS=>Qi (off:=2) rfl rfl) rfl ?_;exact zz.out):A:=k ⟨h⟩
theorem ZaA (h:B) (k:Zh B→A:=by intro zz;(first|refine Qa (Qf hS rfl rfl (by first|exact .head|exact .tail .head|exact .tail (.tail .head)|exact .tail (.tail (.tail .head))|exact .tail (.tail (.tail (.tail .head)))|exact .tail (.tail (.tail (.tail (.tail .head))))) (by repeat constructor)) rfl ?_|refine Qa (Qm rfl rfl (by first|assumption|exact (hpc hF0 _ hS).1|exact (hpc hF0 _ hS).2.1|exact (hpc hF0 _ hS).2.2.1|exact (hpc hF0 _ hS).2.2.2.1|exact (hpc hF0 _ hS).2.2.2.2.1|exact (hpc hF0 _ hS).2.2.2.2.2|exact hS.cell0 (by assumption)|exact Qt hS|exact Qu hS)) rfl ?_);exact zz.out):A:=k ⟨h⟩
theorem Zbg (h:B) (k:Zh B→A:=by intro zz;(first|refine Qa (Qb (k:=4) hS rfl rfl rfl (by first|exact .head|exact .tail .head|exact .tail (.tail .head)|exact .tail (.tail (.tail .head))|exact .tail (.tail (.tail (.tail .head)))|exact .tail (.tail (.tail (.tail (.tail .head))))) (by repeat constructor)) rfl ?_|refine Qa (Qb (k:=4) hS rfl rfl rfl (by first|exact .head|exact .tail .head|exact .tail (.tail .head)|exact .tail (.tail (.tail .head))|exact .tail (.tail (.tail (.tail .head)))|exact .tail (.tail (.tail (.tail (.tail .head))))) (by assumption)) rfl ?_|refine Qa (Q7 rfl rfl rfl (by first|assumption|exact hS.cell0 (by assumption)) (by first|assumption|exact hS.cell0 (by assumption)) (by first|assumption|exact hS.cell0 (by assumption)) (by first|assumption|exact hS.cell0 (by assumption))) rfl ?_);exact zz.out):A:=k ⟨h⟩
theorem Zce (h:B) (k:Zh B→A:=by intro zz;refine Qa (Q0 (sz:=4) rfl rfl rfl rfl (by omega) (by omega)) rfl ?_;exact zz.out):A:=k ⟨h⟩
theorem ZcB (h:B) (k:Zh B→A:=by intro zz;refine Qe rfl (fun _ hS=>Qi (off:=1) rfl rfl) rfl ?_;exact zz.out):A:=k ⟨h⟩
theorem ZaE (h:B) (k:Zh B→A:=by intro zz;refine Qdp (cs:=[_,_,_]) hS rfl rfl rfl ?_;exact zz.out):A:=k ⟨h⟩
theorem Zhn (h:B) (k:Zh B→A:=by intro zz;(first|refine Qe rfl (fun _ hS=>Qf hS rfl rfl (by first|exact .head|exact .tail .head|exact .tail (.tail .head)|exact .tail (.tail (.tail .head))|exact .tail (.tail (.tail (.tail .head)))|exact .tail (.tail (.tail (.tail (.tail .head))))) (by repeat constructor)) rfl ?_|refine Qe rfl (fun _ hS=>Qm rfl rfl (by first|assumption|exact (hcell _ hS).1|exact (hcell _ hS).2.1|exact (hcell _ hS).2.2|exact hS.cell0 (by assumption)|exact Qt hS|exact Qu hS)) rfl ?_);exact zz.out):A:=k ⟨h⟩
theorem ZeS (h:B) (k:Zh B→A:=by intro zz;(first|refine Qa (Qpu rfl rfl (by omega)) rfl ?_|refine Qa (Qsl rfl rfl (by omega)) rfl ?_|refine Qa (rfl) rfl ?_);exact zz.out):A:=k ⟨h⟩
theorem ZaN (h:B) (k:Zh B→A:=by intro zz;refine Qa (Qi (off:=5) rfl rfl) rfl ?_;exact zz.out):A:=k ⟨h⟩
theorem ZdW (h:B) (k:Zh B→A:=by intro zz;(first|refine Qa (Qf hS rfl rfl (by first|exact .head|exact .tail .head|exact .tail (.tail .head)|exact .tail (.tail (.tail .head))|exact .tail (.tail (.tail (.tail .head)))|exact .tail (.tail (.tail (.tail (.tail .head))))) (by repeat constructor)) rfl ?_|refine Qa (Qm rfl rfl (by first|assumption|exact (hpc hF0 _ hS).1|exact (hpc hF0 _ hS).2.1|exact (hpc hF0 _ hS).2.2.1|exact (hpc hF0 _ hS).2.2.2.1|exact (hpc hF0 _ hS).2.2.2.2.1|exact (hpc hF0 _ hS).2.2.2.2.2|exact (hcC _ hS).1|exact (hcC _ hS).2.1|exact (hcC _ hS).2.2.1|exact (hcC _ hS).2.2.2|exact hS.cell0 (by assumption)|exact Qt hS|exact Qu hS)) rfl ?_);exact zz.out):A:=k ⟨h⟩
theorem Zi6 (h:B) (k:Zh B→A:=by intro zz;refine Calls.mono (Qds E y _ hE.rd hry hE.ok hS) ?_;exact zz.out):A:=k ⟨h⟩
theorem ZaZ (h:B) (k:Zh B→A:=by intro zz;(first|refine Qa (Qk6 rfl rfl (by assumption)) rfl ?_|refine Qa (Qk7 rfl rfl (by assumption)) rfl ?_|refine Qa (Qjs rfl rfl) rfl ?_|refine Qa (rfl) rfl ?_);exact zz.out):A:=k ⟨h⟩
theorem ZbS (h:B) (k:Zh B→A:=by intro zz;(first|refine Qa (Qb (k:=4) hS rfl rfl rfl (by first|exact .head|exact .tail .head|exact .tail (.tail .head)|exact .tail (.tail (.tail .head))|exact .tail (.tail (.tail (.tail .head)))|exact .tail (.tail (.tail (.tail (.tail .head))))) (by repeat constructor)) rfl ?_|refine Qa (Qb (k:=4) hS rfl rfl rfl (by first|exact .head|exact .tail .head|exact .tail (.tail .head)|exact .tail (.tail (.tail .head))|exact .tail (.tail (.tail (.tail .head)))|exact .tail (.tail (.tail (.tail (.tail .head))))) (by assumption)) rfl ?_|refine Qa (Q7 rfl rfl rfl (by first|assumption|exact (hcc _ hS).1|exact (hcc _ hS).2.1|exact (hcc _ hS).2.2.1|exact (hcc _ hS).2.2.2|exact hS.cell0 (by assumption)) (by first|assumption|exact (hcc _ hS).1|exact (hcc _ hS).2.1|exact (hcc _ hS).2.2.1|exact (hcc _ hS).2.2.2|exact hS.cell0 (by assumption)) (by first|assumption|exact (hcc _ hS).1|exact (hcc _ hS).2.1|exact (hcc _ hS).2.2.1|exact (hcc _ hS).2.2.2|exact hS.cell0 (by assumption)) (by first|assumption|exact (hcc _ hS).1|exact (hcc _ hS).2.1|exact (hcc _ hS).2.2.1|exact (hcc _ hS).2.2.2|exact hS.cell0 (by assumption))) rfl ?_);exact zz.out):A:=k ⟨h⟩
theorem ZbA (h:B) (k:Zh B→A:=by intro zz;refine Qdp (cs:=[_,_]) hS rfl rfl rfl ?_;exact zz.out):A:=k ⟨h⟩
theorem Zc4 (h:B) (k:Zh B→A:=by intro zz;refine Qd Tryz.func104 rfl (by conv=>lhs;whnf) ?_;exact zz.out):A:=k ⟨h⟩
theorem ZdX (h:B) (k:Zh B→A:=by intro zz;refine Qj rfl (fun _ hS=>Qjy rfl rfl) rfl ?_;exact zz.out):A:=k ⟨h⟩
theorem ZaO (h:B) (k:Zh B→A:=by intro zz;refine QaF (cells:=[_,_,_,_]) hS (.cons (by conv=>lhs;whnf) .nil) rfl rfl ?_;exact zz.out):A:=k ⟨h⟩
theorem ZkG (h:B) (k:Zh B→A:=by intro zz;refine QcN (sz:=4) hS Tryz.func80 rfl rfl rfl rfl (by first|exact .head|exact .tail .head|exact .tail (.tail .head)|exact .tail (.tail (.tail .head))|exact .tail (.tail (.tail (.tail .head)))|exact .tail (.tail (.tail (.tail (.tail .head))))) (by repeat constructor) ?_;exact zz.out):A:=k ⟨h⟩
theorem ZcC (h:B) (k:Zh B→A:=by intro zz;refine Qj rfl (fun _ hS=>Qfr (by conv=>lhs;whnf)) rfl ?_;exact zz.out):A:=k ⟨h⟩
theorem ZkH (h:B) (k:Zh B→A:=by intro zz;refine Qa (QD (cells:=[_,_,_,_]) .nil rfl) rfl ?_;exact zz.out):A:=k ⟨h⟩
theorem Za0 (h:B) (k:Zh B→A:=by intro zz;refine Qa (Qi (off:=4) rfl rfl) rfl ?_;exact zz.out):A:=k ⟨h⟩
theorem Zgr (h:B) (k:Zh B→A:=by intro zz;(first|refine Qa (Qf hS rfl rfl (by first|exact .head|exact .tail .head|exact .tail (.tail .head)|exact .tail (.tail (.tail .head))|exact .tail (.tail (.tail (.tail .head)))|exact .tail (.tail (.tail (.tail (.tail .head))))) (by repeat constructor)) rfl ?_|refine Qa (Qm rfl rfl (by first|assumption|exact hpa _ hS|exact hS.cell0 (by assumption)|exact Qt hS|exact Qu hS)) rfl ?_);exact zz.out):A:=k ⟨h⟩
theorem ZbT (h:B) (k:Zh B→A:=by intro zz;refine Qe rfl (fun _ hS=>Q0 (sz:=3) rfl rfl rfl rfl (by omega) (by omega)) rfl ?_;exact zz.out):A:=k ⟨h⟩
theorem Zho (h:B) (k:Zh B→A:=by intro zz;refine Qd Tryz.func186 rfl (by conv=>lhs;whnf) ?_;exact zz.out):A:=k ⟨h⟩
theorem Zi7 (h:B) (k:Zh B→A:=by intro zz;refine Qa (QD (cells:=[_,_,_,_]) (.cons (by conv=>lhs;whnf) (.cons (by conv=>lhs;whnf) .nil)) rfl) rfl ?_;exact zz.out):A:=k ⟨h⟩
theorem Zc5 (h:B) (k:Zh B→A:=by intro zz;refine Qe rfl (fun _ hS=>Qi (off:=3) rfl rfl) rfl ?_;exact zz.out):A:=k ⟨h⟩
theorem Zbh (h:B) (k:Zh B→A:=by intro zz;refine Qar (sz:=1) (bts:=16) hS (by conv=>lhs;whnf) rfl rfl rfl rfl (hR) rfl rfl (List.Perm.refl _) (by omega) (by omega) rfl ?_;exact zz.out):A:=k ⟨h⟩
theorem Zhp (h:B) (k:Zh B→A:=by intro zz;refine Qa (QkA rfl rfl rfl rfl (by omega) (by omega) (by first|omega|(simp;omega))) rfl ?_;exact zz.out):A:=k ⟨h⟩
theorem ZkI (h:B) (k:Zh B→A:=by intro zz;refine Qh Tryz.func80 rfl Tryz.ntmps80 rfl ?_;exact zz.out):A:=k ⟨h⟩
theorem ZeT (h:B) (k:Zh B→A:=by intro zz;(first|refine Qa (Qf hS rfl rfl (by first|exact .head|exact .tail .head|exact .tail (.tail .head)|exact .tail (.tail (.tail .head))|exact .tail (.tail (.tail (.tail .head)))|exact .tail (.tail (.tail (.tail (.tail .head))))) (by repeat constructor)) rfl ?_|refine Qa (Qm rfl rfl (by first|assumption|exact (hpc _ hS).1|exact (hpc _ hS).2.1|exact (hpc _ hS).2.2.1|exact (hpc _ hS).2.2.2.1|exact (hpc _ hS).2.2.2.2.1|exact (hpc _ hS).2.2.2.2.2|exact hS.cell0 (by assumption)|exact Qt hS|exact Qu hS)) rfl ?_);exact zz.out):A:=k ⟨h⟩
theorem ZbB (h:B) (k:Zh B→A:=by intro zz;refine Qe rfl (fun _ hS=>Qc8 rfl rfl rfl) rfl ?_;exact zz.out):A:=k ⟨h⟩
theorem ZkJ (h:B) (k:Zh B→A:=by intro zz;refine Calls.mono (hfr _ _ hS.swap) ?_;exact zz.out):A:=k ⟨h⟩
theorem ZbC (h:B) (k:Zh B→A:=by intro zz;refine Qj rfl (fun _ ⟨_,hS⟩=>QgF (by conv=>lhs;whnf)) rfl ?_;exact zz.out):A:=k ⟨h⟩
theorem ZbD (h:B) (k:Zh B→A:=by intro zz;refine QcT (by first|exact hS|exact hS.drop|exact hS.drop.drop|exact hS.drop.drop.drop|exact hS.unlearn|exact hS.unlearn.drop|exact hS.unlearn.drop.drop|exact hS.forget hF9|exact hS.drop.forget hF9) ?_;exact zz.out):A:=k ⟨h⟩
theorem ZkK (h:B) (k:Zh B→A:=by intro zz;refine Calls.mono (Qtm c _) ?_;exact zz.out):A:=k ⟨h⟩
theorem ZeU (h:B) (k:Zh B→A:=by intro zz;refine Calls.mono (Qds E p.2 _ hE.rd h2 hE.ok hS) ?_;exact zz.out):A:=k ⟨h⟩
theorem ZeV (h:B) (k:Zh B→A:=by intro zz;(first|refine Qa (Qb (k:=2) hS rfl rfl rfl (by first|exact .head|exact .tail .head|exact .tail (.tail .head)|exact .tail (.tail (.tail .head))|exact .tail (.tail (.tail (.tail .head)))|exact .tail (.tail (.tail (.tail (.tail .head))))) (by repeat constructor)) rfl ?_|refine Qa (Qb (k:=2) hS rfl rfl rfl (by first|exact .head|exact .tail .head|exact .tail (.tail .head)|exact .tail (.tail (.tail .head))|exact .tail (.tail (.tail (.tail .head)))|exact .tail (.tail (.tail (.tail (.tail .head))))) (by assumption)) rfl ?_|refine Qa (Qbn rfl rfl rfl (by first|assumption|exact hct _ hS|exact hS.cell0 (by assumption)) (by first|assumption|exact hct _ hS|exact hS.cell0 (by assumption))) rfl ?_);exact zz.out):A:=k ⟨h⟩
theorem ZbU (h:B) (k:Zh B→A:=by intro zz;(first|refine Qa (Qf hS rfl rfl (by first|exact .head|exact .tail .head|exact .tail (.tail .head)|exact .tail (.tail (.tail .head))|exact .tail (.tail (.tail (.tail .head)))|exact .tail (.tail (.tail (.tail (.tail .head))))) (by repeat constructor)) rfl ?_|refine Qa (Qm rfl rfl (by first|assumption|exact hwc _ hS.ext|exact hS.cell0 (by assumption)|exact Qt hS|exact Qu hS)) rfl ?_);exact zz.out):A:=k ⟨h⟩
theorem Zcf (h:B) (k:Zh B→A:=by intro zz;refine Qdp (cs:=[_,_,_,_,_,_]) hS rfl rfl rfl ?_;exact zz.out):A:=k ⟨h⟩
theorem Zcg (h:B) (k:Zh B→A:=by intro zz;refine Qbq (by first|exact hS.only1|exact hS.drop.only1|exact hS.unlearn.only1|exact hS.unlearn.drop.only1) ?_;exact zz.out):A:=k ⟨h⟩
theorem ZkL (h:B) (k:Zh B→A:=by intro zz;refine Calls.mono (QdY c _) ?_;exact zz.out):A:=k ⟨h⟩
theorem ZkM (h:B) (k:Zh B→A:=by intro zz;refine Qfi Tryz.func105 rfl (by conv=>lhs;whnf) (by conv=>lhs;whnf) (by conv=>lhs;whnf) ?_;exact zz.out):A:=k ⟨h⟩
theorem Zgs (h:B) (k:Zh B→A:=by intro zz;refine Calls.mono (Qds E x _ hE.rd hrx hE.ok hS) ?_;exact zz.out):A:=k ⟨h⟩
theorem ZkN (h:B) (k:Zh B→A:=by intro zz;(first|refine Qe rfl (fun _ hS=>Qf hS rfl rfl (by first|exact .head|exact .tail .head|exact .tail (.tail .head)|exact .tail (.tail (.tail .head))|exact .tail (.tail (.tail (.tail .head)))|exact .tail (.tail (.tail (.tail (.tail .head))))) (by repeat constructor)) rfl ?_|refine Qe rfl (fun _ hS=>Qm rfl rfl (by first|assumption|exact (hpc _ hS).1|exact (hpc _ hS).2.1|exact (hpc _ hS).2.2.1|exact (hpc _ hS).2.2.2.1|exact (hpc _ hS).2.2.2.2.1|exact (hpc _ hS).2.2.2.2.2|exact hS.cell0 (by assumption)|exact Qt hS|exact Qu hS)) rfl ?_);exact zz.out):A:=k ⟨h⟩
theorem Zig (h:B) (k:Zh B→A:=by intro zz;(first|refine Qa (Qb (k:=3) hS rfl rfl rfl (by first|exact .head|exact .tail .head|exact .tail (.tail .head)|exact .tail (.tail (.tail .head))|exact .tail (.tail (.tail (.tail .head)))|exact .tail (.tail (.tail (.tail (.tail .head))))) (by repeat constructor)) rfl ?_|refine Qa (Qb (k:=3) hS rfl rfl rfl (by first|exact .head|exact .tail .head|exact .tail (.tail .head)|exact .tail (.tail (.tail .head))|exact .tail (.tail (.tail (.tail .head)))|exact .tail (.tail (.tail (.tail (.tail .head))))) (by assumption)) rfl ?_|refine Qa (QbB rfl rfl rfl (by first|assumption|exact (hcc _ hS).1|exact (hcc _ hS).2.1|exact (hcc _ hS).2.2|exact hS.cell0 (by assumption)) (by first|assumption|exact (hcc _ hS).1|exact (hcc _ hS).2.1|exact (hcc _ hS).2.2|exact hS.cell0 (by assumption)) (by first|assumption|exact (hcc _ hS).1|exact (hcc _ hS).2.1|exact (hcc _ hS).2.2|exact hS.cell0 (by assumption))) rfl ?_);exact zz.out):A:=k ⟨h⟩
theorem Zch (h:B) (k:Zh B→A:=by intro zz;(first|refine Qa (Qf hS rfl rfl (by first|exact .head|exact .tail .head|exact .tail (.tail .head)|exact .tail (.tail (.tail .head))|exact .tail (.tail (.tail (.tail .head)))|exact .tail (.tail (.tail (.tail (.tail .head))))) (by repeat constructor)) rfl ?_|refine Qa (Qm rfl rfl (by first|assumption|exact hct _ hS|exact hS.cell0 (by assumption)|exact Qt hS|exact Qu hS)) rfl ?_);exact zz.out):A:=k ⟨h⟩
theorem ZcD (h:B) (k:Zh B→A:=by intro zz;(first|refine Qa (QjA rfl rfl rfl) rfl ?_|refine Qa (QkD rfl rfl rfl) rfl ?_);exact zz.out):A:=k ⟨h⟩
theorem ZcE (h:B) (k:Zh B→A:=by intro zz;refine Qd Tryz.func113 rfl (by conv=>lhs;whnf) ?_;exact zz.out):A:=k ⟨h⟩
theorem ZkO (h:B) (k:Zh B→A:=by intro zz;refine QcN (sz:=4) hS Tryz.func72 rfl rfl rfl rfl (by first|exact .head|exact .tail .head|exact .tail (.tail .head)|exact .tail (.tail (.tail .head))|exact .tail (.tail (.tail (.tail .head)))|exact .tail (.tail (.tail (.tail (.tail .head))))) (by repeat constructor) ?_;exact zz.out):A:=k ⟨h⟩
theorem ZcF (h:B) (k:Zh B→A:=by intro zz;(first|refine Qa (Qb (k:=6) hS rfl rfl rfl (by first|exact .head|exact .tail .head|exact .tail (.tail .head)|exact .tail (.tail (.tail .head))|exact .tail (.tail (.tail (.tail .head)))|exact .tail (.tail (.tail (.tail (.tail .head))))) (by repeat constructor)) rfl ?_|refine Qa (Qb (k:=6) hS rfl rfl rfl (by first|exact .head|exact .tail .head|exact .tail (.tail .head)|exact .tail (.tail (.tail .head))|exact .tail (.tail (.tail (.tail .head)))|exact .tail (.tail (.tail (.tail (.tail .head))))) (by assumption)) rfl ?_|refine Qa (QgG rfl rfl rfl (by first|assumption|exact hS.cell0 (by assumption)) (by first|assumption|exact hS.cell0 (by assumption)) (by first|assumption|exact hS.cell0 (by assumption)) (by first|assumption|exact hS.cell0 (by assumption)) (by first|assumption|exact hS.cell0 (by assumption)) (by first|assumption|exact hS.cell0 (by assumption))) rfl ?_);exact zz.out):A:=k ⟨h⟩
theorem ZcG (h:B) (k:Zh B→A:=by intro zz;refine QaK Tryz.func131 rfl (by conv=>lhs;whnf) (by conv=>lhs;whnf) ?_;exact zz.out):A:=k ⟨h⟩
theorem Zi8 (h:B) (k:Zh B→A:=by intro zz;(first|refine Qa (Qe0 (sz:=1) rfl rfl rfl rfl (by omega) (by omega) (by omega)) rfl ?_|refine Qa (Qcs (sz:=1) rfl rfl rfl rfl (by omega) (by omega)) rfl ?_);exact zz.out):A:=k ⟨h⟩
theorem Zhq (h:B) (k:Zh B→A:=by intro zz;refine Qa (Qwx rfl rfl (by assumption)) rfl ?_;exact zz.out):A:=k ⟨h⟩
theorem ZcH (h:B) (k:Zh B→A:=by intro zz;refine Qd Tryz.func38 rfl (by conv=>lhs;whnf) ?_;exact zz.out):A:=k ⟨h⟩
theorem ZcI (h:B) (k:Zh B→A:=by intro zz;refine Qj rfl (fun _ hS=>Qi (off:=0) rfl rfl) rfl ?_;exact zz.out):A:=k ⟨h⟩
theorem ZcJ (h:B) (k:Zh B→A:=by intro zz;refine Qd Tryz.func62 rfl (by conv=>lhs;whnf) ?_;exact zz.out):A:=k ⟨h⟩
theorem ZcK (h:B) (k:Zh B→A:=by intro zz;(first|refine Qa (Qb (k:=2) hS rfl rfl rfl (by first|exact .head|exact .tail .head|exact .tail (.tail .head)|exact .tail (.tail (.tail .head))|exact .tail (.tail (.tail (.tail .head)))|exact .tail (.tail (.tail (.tail (.tail .head))))) (by repeat constructor)) rfl ?_|refine Qa (Qb (k:=2) hS rfl rfl rfl (by first|exact .head|exact .tail .head|exact .tail (.tail .head)|exact .tail (.tail (.tail .head))|exact .tail (.tail (.tail (.tail .head)))|exact .tail (.tail (.tail (.tail (.tail .head))))) (by assumption)) rfl ?_|refine Qa (Qbn rfl rfl rfl (by first|assumption|exact (hcc _ hS).1|exact (hcc _ hS).2.1|exact (hcc _ hS).2.2|exact hS.cell0 (by assumption)) (by first|assumption|exact (hcc _ hS).1|exact (hcc _ hS).2.1|exact (hcc _ hS).2.2|exact hS.cell0 (by assumption))) rfl ?_);exact zz.out):A:=k ⟨h⟩
theorem Zc6 (h:B) (k:Zh B→A:=by intro zz;refine Qa (hop _ _ hr) hd ?_;exact zz.out):A:=k ⟨h⟩
theorem ZkP (h:B) (k:Zh B→A:=by intro zz;refine Calls.mono (QdX c _) ?_;exact zz.out):A:=k ⟨h⟩
theorem Zih (h:B) (k:Zh B→A:=by intro zz;(first|refine Qa (Qym rfl (by omega) (by omega)) rfl ?_|refine Qa (rfl) rfl ?_);exact zz.out):A:=k ⟨h⟩
theorem Zc7 (h:B) (k:Zh B→A:=by intro zz;refine QaK Tryz.func47 rfl (by conv=>lhs;whnf) (by conv=>lhs;whnf) ?_;exact zz.out):A:=k ⟨h⟩
theorem Zc8 (h:B) (k:Zh B→A:=by intro zz;refine Qbq (by first|exact hS|exact hS.drop|exact hS.drop.drop|exact hS.drop.drop.drop|exact hS.unlearn|exact hS.unlearn.drop|exact hS.unlearn.drop.drop|exact hS.forget (by assumption)|exact hS.drop.forget (by assumption)) ?_;exact zz.out):A:=k ⟨h⟩
theorem Zii (h:B) (k:Zh B→A:=by intro zz;refine Qj rfl (fun _ hS=>Q0 (sz:=4) rfl rfl rfl rfl (by omega) (by omega)) rfl ?_;exact zz.out):A:=k ⟨h⟩
theorem Zij (h:B) (k:Zh B→A:=by intro zz;(first|refine Qe rfl (fun _ hS=>Qk4 rfl (by conv=>lhs;whnf)) rfl ?_|refine Qe rfl (fun _ hS=>Qk5 rfl (by conv=>lhs;whnf)) rfl ?_);exact zz.out):A:=k ⟨h⟩
theorem Zc9 (h:B) (k:Zh B→A:=by intro zz;(first|refine Qa (Qf hS rfl rfl (by first|exact .head|exact .tail .head|exact .tail (.tail .head)|exact .tail (.tail (.tail .head))|exact .tail (.tail (.tail (.tail .head)))|exact .tail (.tail (.tail (.tail (.tail .head))))) (by repeat constructor)) rfl ?_|refine Qa (Qm rfl rfl (by first|assumption|exact hwl _ hS|exact (hcc _ hS).1|exact (hcc _ hS).2.1|exact (hcc _ hS).2.2|exact hS.cell0 (by assumption)|exact Qt hS|exact Qu hS)) rfl ?_);exact zz.out):A:=k ⟨h⟩
theorem Zda (h:B) (k:Zh B→A:=by intro zz;refine QcT (by first|exact hS|exact hS.drop|exact hS.drop.drop|exact hS.drop.drop.drop|exact hS.unlearn|exact hS.unlearn.drop|exact hS.unlearn.drop.drop|exact hS.forget hF8|exact hS.drop.forget hF8|exact hS.forget (fun φ h=>hF9 φ (hF8 φ h))|exact hS.drop.forget (fun φ h=>hF9 φ (hF8 φ h))) ?_;exact zz.out):A:=k ⟨h⟩
theorem Zdb (h:B) (k:Zh B→A:=by intro zz;refine Qbq (by first|exact hS.bare1|exact hS.drop.bare1|exact hS.drop.drop.bare1) ?_;exact zz.out):A:=k ⟨h⟩
theorem Zdc (h:B) (k:Zh B→A:=by intro zz;refine Qa (Qi (off:=9) rfl rfl) rfl ?_;exact zz.out):A:=k ⟨h⟩
theorem ZdY (h:B) (k:Zh B→A:=by intro zz;refine Calls.mono (QdD s 1 _ hS) ?_;exact zz.out):A:=k ⟨h⟩
theorem ZdZ (h:B) (k:Zh B→A:=by intro zz;(first|refine Qe rfl (fun _ hS=>Qb4 rfl rfl) rfl ?_|refine Qe rfl (fun _ hS=>Qht rfl rfl (by first|assumption|omega)) rfl ?_|refine Qe rfl (fun _ hS=>Qf9 rfl rfl (by omega)) rfl ?_|refine Qe rfl (fun _ hS=>rfl) rfl ?_);exact zz.out):A:=k ⟨h⟩
theorem Zd0 (h:B) (k:Zh B→A:=by intro zz;refine Qd Tryz.func19 rfl (by conv=>lhs;whnf) ?_;exact zz.out):A:=k ⟨h⟩
theorem Zd1 (h:B) (k:Zh B→A:=by intro zz;refine QH (St _ _ _ _) 9 ((0,true)::(1,true)::(2,true)::(3,true)::(4,true)::(5,true)::(6,true)::(7,true)::(8,true)::[]) (by kernel_rfl) (by kernel_rfl) (hS.drew) ?_;exact zz.out):A:=k ⟨h⟩
theorem ZkQ (h:B) (k:Zh B→A:=by intro zz;refine Qa (Q0 (sz:=6) rfl rfl rfl rfl (by omega) (by omega)) rfl ?_;exact zz.out):A:=k ⟨h⟩
theorem ZkR (h:B) (k:Zh B→A:=by intro zz;refine Q3 rfl rfl rfl (fun _ hS=>QgF (by conv=>lhs;whnf)) rfl ?_;exact zz.out):A:=k ⟨h⟩
theorem ZkS (h:B) (k:Zh B→A:=by intro zz;refine Q3 rfl rfl rfl (fun _ hS=>Qbm rfl) rfl ?_;exact zz.out):A:=k ⟨h⟩
theorem Zd2 (h:B) (k:Zh B→A:=by intro zz;(first|refine Qa (Qf hS rfl rfl (by first|exact .head|exact .tail .head|exact .tail (.tail .head)|exact .tail (.tail (.tail .head))|exact .tail (.tail (.tail (.tail .head)))|exact .tail (.tail (.tail (.tail (.tail .head))))) (by repeat constructor)) rfl ?_|refine Qa (Qm rfl rfl (by first|assumption|exact (hpc1 hFF2 _ hS).1|exact (hpc1 hFF2 _ hS).2.1|exact (hpc1 hFF2 _ hS).2.2.1|exact (hpc1 hFF2 _ hS).2.2.2.1|exact (hpc1 hFF2 _ hS).2.2.2.2.1|exact (hpc1 hFF2 _ hS).2.2.2.2.2|exact hS.cell0 (by assumption)|exact Qt hS|exact Qu hS)) rfl ?_);exact zz.out):A:=k ⟨h⟩
theorem ZkT (h:B) (k:Zh B→A:=by intro zz;refine QhG (sz:=2) hS Tryz.func155 rfl rfl (by conv=>lhs;whnf) (by conv=>lhs;whnf) rfl rfl (by first|exact .head|exact .tail .head|exact .tail (.tail .head)|exact .tail (.tail (.tail .head))|exact .tail (.tail (.tail (.tail .head)))|exact .tail (.tail (.tail (.tail (.tail .head))))) (by repeat constructor) ?_;exact zz.out):A:=k ⟨h⟩
theorem ZkU (h:B) (k:Zh B→A:=by intro zz;refine Qd8 (sz:=4) hS Tryz.func143 rfl rfl (by conv=>lhs;whnf) rfl rfl (by first|exact .head|exact .tail .head|exact .tail (.tail .head)|exact .tail (.tail (.tail .head))|exact .tail (.tail (.tail (.tail .head)))|exact .tail (.tail (.tail (.tail (.tail .head))))) (by repeat constructor) ?_;exact zz.out):A:=k ⟨h⟩
theorem Zd3 (h:B) (k:Zh B→A:=by intro zz;(first|refine Qa (Qf hS rfl rfl (by first|exact .head|exact .tail .head|exact .tail (.tail .head)|exact .tail (.tail (.tail .head))|exact .tail (.tail (.tail (.tail .head)))|exact .tail (.tail (.tail (.tail (.tail .head))))) (by repeat constructor)) rfl ?_|refine Qa (Qm rfl rfl (by first|assumption|exact (hll _ hS (by repeat constructor)).1|exact (hll _ hS (by repeat constructor)).2.1|exact (hll _ hS (by repeat constructor)).2.2|exact hS.cell0 (by assumption)|exact Qt hS|exact Qu hS)) rfl ?_);exact zz.out):A:=k ⟨h⟩
theorem Zi9 (h:B) (k:Zh B→A:=by intro zz;refine QH (St _ _ _ _) 10 ((0,true)::(1,true)::(2,true)::(3,true)::(4,true)::(5,true)::(6,true)::(7,true)::(8,true)::(9,true)::[]) (by kernel_rfl) (by kernel_rfl) (hS.drew) ?_;exact zz.out):A:=k ⟨h⟩
theorem Zd4 (h:B) (k:Zh B→A:=by intro zz;(first|refine Qa (Qf hS rfl rfl (by first|exact .head|exact .tail .head|exact .tail (.tail .head)|exact .tail (.tail (.tail .head))|exact .tail (.tail (.tail (.tail .head)))|exact .tail (.tail (.tail (.tail (.tail .head))))) (by repeat constructor)) rfl ?_|refine Qa (Qm rfl rfl (by first|assumption|exact hsv _ hS (.tail _ (.head _))|exact hll _ hS (by simp [hgl])|exact hS.cell0 (by assumption)|exact Qt hS|exact Qu hS)) rfl ?_);exact zz.out):A:=k ⟨h⟩
theorem Zd5 (h:B) (k:Zh B→A:=by intro zz;refine Qa (Qi (off:=8) rfl rfl) rfl ?_;exact zz.out):A:=k ⟨h⟩
theorem ZeW (h:B) (k:Zh B→A:=by intro zz;(first|refine Qa (QkB rfl rfl rfl) rfl ?_|refine Qa (Qjt rfl rfl rfl) rfl ?_|refine Qa (Qij rfl rfl rfl rfl) rfl ?_);exact zz.out):A:=k ⟨h⟩
theorem ZkV (h:B) (k:Zh B→A:=by intro zz;refine Qd Tryz.func69 rfl (by conv=>lhs;whnf) ?_;exact zz.out):A:=k ⟨h⟩
theorem ZeX (h:B) (k:Zh B→A:=by intro zz;refine Qa (QD (cells:=[_,_,_,_]) (.cons (by conv=>lhs;whnf) .nil) rfl) rfl ?_;exact zz.out):A:=k ⟨h⟩
theorem ZeY (h:B) (k:Zh B→A:=by intro zz;refine Qe rfl (fun _ hS=>Qhu rfl rfl (by first|omega|(simp;done)|(simp;omega))) rfl ?_;exact zz.out):A:=k ⟨h⟩
theorem ZkW (h:B) (k:Zh B→A:=by intro zz;refine QQ Tryz.func104 rfl Tryz.ntmps104 rfl ?_;exact zz.out):A:=k ⟨h⟩
theorem ZeZ (h:B) (k:Zh B→A:=by intro zz;refine Calls.mono (hc _ ⟨K,oA,oc,O,hK,hKr,hrow,hS⟩) ?_;exact zz.out):A:=k ⟨h⟩
theorem Ze0 (h:B) (k:Zh B→A:=by intro zz;(first|refine Qa (Qf hS rfl rfl (by first|exact .head|exact .tail .head|exact .tail (.tail .head)|exact .tail (.tail (.tail .head))|exact .tail (.tail (.tail (.tail .head)))|exact .tail (.tail (.tail (.tail (.tail .head))))) (by repeat constructor)) rfl ?_|refine Qa (Qm rfl rfl (by first|assumption|exact (hpc hF _ hS).1|exact (hpc hF _ hS).2.1|exact (hpc hF _ hS).2.2.1|exact (hpc hF _ hS).2.2.2.1|exact (hpc hF _ hS).2.2.2.2.1|exact (hpc hF _ hS).2.2.2.2.2|exact hS.cell0 (by assumption)|exact Qt hS|exact Qu hS)) rfl ?_);exact zz.out):A:=k ⟨h⟩
theorem Ze1 (h:B) (k:Zh B→A:=by intro zz;(first|refine Qj rfl (fun _ hS=>Qb (k:=4) hS rfl rfl rfl (by first|exact .head|exact .tail .head|exact .tail (.tail .head)|exact .tail (.tail (.tail .head))|exact .tail (.tail (.tail (.tail .head)))|exact .tail (.tail (.tail (.tail (.tail .head))))) (by repeat constructor)) rfl ?_|refine Qj rfl (fun _ hS=>Qb (k:=4) hS rfl rfl rfl (by first|exact .head|exact .tail .head|exact .tail (.tail .head)|exact .tail (.tail (.tail .head))|exact .tail (.tail (.tail (.tail .head)))|exact .tail (.tail (.tail (.tail (.tail .head))))) (by assumption)) rfl ?_|refine Qj rfl (fun _ hS=>Q7 rfl rfl rfl (by first|assumption|exact (hcA _ hS).1|exact (hcA _ hS).2.1|exact (hcA _ hS).2.2.1|exact (hcA _ hS).2.2.2|exact (hcB _ hS).1|exact (hcB _ hS).2.1|exact (hcB _ hS).2.2.1|exact (hcB _ hS).2.2.2|exact hS.cell0 (by assumption)) (by first|assumption|exact (hcA _ hS).1|exact (hcA _ hS).2.1|exact (hcA _ hS).2.2.1|exact (hcA _ hS).2.2.2|exact (hcB _ hS).1|exact (hcB _ hS).2.1|exact (hcB _ hS).2.2.1|exact (hcB _ hS).2.2.2|exact hS.cell0 (by assumption)) (by first|assumption|exact (hcA _ hS).1|exact (hcA _ hS).2.1|exact (hcA _ hS).2.2.1|exact (hcA _ hS).2.2.2|exact (hcB _ hS).1|exact (hcB _ hS).2.1|exact (hcB _ hS).2.2.1|exact (hcB _ hS).2.2.2|exact hS.cell0 (by assumption)) (by first|assumption|exact (hcA _ hS).1|exact (hcA _ hS).2.1|exact (hcA _ hS).2.2.1|exact (hcA _ hS).2.2.2|exact (hcB _ hS).1|exact (hcB _ hS).2.1|exact (hcB _ hS).2.2.1|exact (hcB _ hS).2.2.2|exact hS.cell0 (by assumption))) rfl ?_);exact zz.out):A:=k ⟨h⟩
theorem ZkX (h:B) (k:Zh B→A:=by intro zz;refine Calls.mono (Qew pb pA X.length pc q p 5 _ (by omega) (hPS _ hS)) ?_;exact zz.out):A:=k ⟨h⟩
theorem Ze2 (h:B) (k:Zh B→A:=by intro zz;(first|refine Qa (Qb (k:=6) hS rfl rfl rfl (by first|exact .head|exact .tail .head|exact .tail (.tail .head)|exact .tail (.tail (.tail .head))|exact .tail (.tail (.tail (.tail .head)))|exact .tail (.tail (.tail (.tail (.tail .head))))) (by repeat constructor)) rfl ?_|refine Qa (Qb (k:=6) hS rfl rfl rfl (by first|exact .head|exact .tail .head|exact .tail (.tail .head)|exact .tail (.tail (.tail .head))|exact .tail (.tail (.tail (.tail .head)))|exact .tail (.tail (.tail (.tail (.tail .head))))) (by assumption)) rfl ?_|refine Qa (QgG rfl rfl rfl (by first|assumption|exact (hpc _ hS).1|exact (hpc _ hS).2.1|exact (hpc _ hS).2.2.1|exact (hpc _ hS).2.2.2.1|exact (hpc _ hS).2.2.2.2.1|exact (hpc _ hS).2.2.2.2.2|exact hS.cell0 (by assumption)) (by first|assumption|exact (hpc _ hS).1|exact (hpc _ hS).2.1|exact (hpc _ hS).2.2.1|exact (hpc _ hS).2.2.2.1|exact (hpc _ hS).2.2.2.2.1|exact (hpc _ hS).2.2.2.2.2|exact hS.cell0 (by assumption)) (by first|assumption|exact (hpc _ hS).1|exact (hpc _ hS).2.1|exact (hpc _ hS).2.2.1|exact (hpc _ hS).2.2.2.1|exact (hpc _ hS).2.2.2.2.1|exact (hpc _ hS).2.2.2.2.2|exact hS.cell0 (by assumption)) (by first|assumption|exact (hpc _ hS).1|exact (hpc _ hS).2.1|exact (hpc _ hS).2.2.1|exact (hpc _ hS).2.2.2.1|exact (hpc _ hS).2.2.2.2.1|exact (hpc _ hS).2.2.2.2.2|exact hS.cell0 (by assumption)) (by first|assumption|exact (hpc _ hS).1|exact (hpc _ hS).2.1|exact (hpc _ hS).2.2.1|exact (hpc _ hS).2.2.2.1|exact (hpc _ hS).2.2.2.2.1|exact (hpc _ hS).2.2.2.2.2|exact hS.cell0 (by assumption)) (by first|assumption|exact (hpc _ hS).1|exact (hpc _ hS).2.1|exact (hpc _ hS).2.2.1|exact (hpc _ hS).2.2.2.1|exact (hpc _ hS).2.2.2.2.1|exact (hpc _ hS).2.2.2.2.2|exact hS.cell0 (by assumption))) rfl ?_);exact zz.out):A:=k ⟨h⟩
theorem ZkY (h:B) (k:Zh B→A:=by intro zz;refine Q3 rfl rfl rfl (fun _ hS=>Qi (off:=0) rfl rfl) rfl ?_;exact zz.out):A:=k ⟨h⟩
theorem ZkZ (h:B) (k:Zh B→A:=by intro zz;refine Q3 rfl rfl rfl (fun _ hS=>Qi (off:=3) rfl rfl) rfl ?_;exact zz.out):A:=k ⟨h⟩
theorem Zk0 (h:B) (k:Zh B→A:=by intro zz;(first|refine Q3 rfl rfl rfl (fun _ hS=>Qf hS rfl rfl (by first|exact .head|exact .tail .head|exact .tail (.tail .head)|exact .tail (.tail (.tail .head))|exact .tail (.tail (.tail (.tail .head)))|exact .tail (.tail (.tail (.tail (.tail .head))))) (by repeat constructor)) rfl ?_|refine Q3 rfl rfl rfl (fun _ hS=>Qm rfl rfl (by first|assumption|exact (hpc _ hS).1|exact (hpc _ hS).2.1|exact (hpc _ hS).2.2.1|exact (hpc _ hS).2.2.2.1|exact (hpc _ hS).2.2.2.2.1|exact (hpc _ hS).2.2.2.2.2|exact hS.cell0 (by assumption)|exact Qt hS|exact Qu hS)) rfl ?_);exact zz.out):A:=k ⟨h⟩
theorem Zk1 (h:B) (k:Zh B→A:=by intro zz;refine Q3 rfl rfl rfl (fun _ hS=>Qc8 rfl rfl rfl) rfl ?_;exact zz.out):A:=k ⟨h⟩
theorem Ze3 (h:B) (k:Zh B→A:=by intro zz;refine QaK Tryz.func34 rfl (by conv=>lhs;whnf) (by conv=>lhs;whnf) ?_;exact zz.out):A:=k ⟨h⟩
theorem Zk2 (h:B) (k:Zh B→A:=by intro zz;refine Calls.mono (Qru h A B c d _ (hS.und hH)) ?_;exact zz.out):A:=k ⟨h⟩
theorem Ze4 (h:B) (k:Zh B→A:=by intro zz;(first|refine Qa (Qf hS rfl rfl (by first|exact .head|exact .tail .head|exact .tail (.tail .head)|exact .tail (.tail (.tail .head))|exact .tail (.tail (.tail (.tail .head)))|exact .tail (.tail (.tail (.tail (.tail .head))))) (by repeat constructor)) rfl ?_|refine Qa (Qm rfl rfl (by first|assumption|exact (hcc _ hS).1|exact (hcc _ hS).2.1|exact (hcc _ hS).2.2|exact hcb _ hS|exact hcs _ hS|exact hS.cell0 (by assumption)|exact Qt hS|exact Qu hS)) rfl ?_);exact zz.out):A:=k ⟨h⟩
theorem Ze5 (h:B) (k:Zh B→A:=by intro zz;refine QaF (cells:=[_,_,_]) hS (.cons (by conv=>lhs;whnf) .nil) rfl rfl ?_;exact zz.out):A:=k ⟨h⟩
theorem Ze6 (h:B) (k:Zh B→A:=by intro zz;refine Qj rfl (fun _ hS=>QD (cells:=[_,_]) (.cons (by conv=>lhs;whnf) (.cons (by conv=>lhs;whnf) .nil)) rfl) rfl ?_;exact zz.out):A:=k ⟨h⟩
theorem Ze7 (h:B) (k:Zh B→A:=by intro zz;refine Qd Tryz.func196 rfl (by conv=>lhs;whnf) ?_;exact zz.out):A:=k ⟨h⟩
theorem Ze8 (h:B) (k:Zh B→A:=by intro zz;refine Qay hS rfl (by conv=>lhs;whnf) rfl rfl (.tail .head) (by rw [Nat.zero_add,Nat.mul_one];exact hput) (.tail .head) ?_;exact zz.out):A:=k ⟨h⟩
theorem Ze9 (h:B) (k:Zh B→A:=by intro zz;refine Qe rfl (fun _ hS=>Q0 (sz:=1) rfl rfl rfl rfl (by omega) (by omega)) rfl ?_;exact zz.out):A:=k ⟨h⟩
theorem Zfa (h:B) (k:Zh B→A:=by intro zz;refine Qe rfl (fun _ hS=>Qi (off:=9) rfl rfl) rfl ?_;exact zz.out):A:=k ⟨h⟩
theorem Zk3 (h:B) (k:Zh B→A:=by intro zz;(first|refine Qa (Qf hS rfl rfl (by first|exact .head|exact .tail .head|exact .tail (.tail .head)|exact .tail (.tail (.tail .head))|exact .tail (.tail (.tail (.tail .head)))|exact .tail (.tail (.tail (.tail (.tail .head))))) (by repeat constructor)) rfl ?_|refine Qa (Qm rfl rfl (by first|assumption|exact (hcell _ hS).1|exact (hcell _ hS).2.1|exact (hcell _ hS).2.2|exact hS.cell0 (by assumption)|exact Qt hS|exact Qu hS)) rfl ?_);exact zz.out):A:=k ⟨h⟩
theorem Zfb (h:B) (k:Zh B→A:=by intro zz;refine Qd Tryz.func58 rfl (by conv=>lhs;whnf) ?_;exact zz.out):A:=k ⟨h⟩
theorem Zfc (h:B) (k:Zh B→A:=by intro zz;refine QaK Tryz.func12 rfl (by conv=>lhs;whnf) (by conv=>lhs;whnf) ?_;exact zz.out):A:=k ⟨h⟩
theorem Zgt (h:B) (k:Zh B→A:=by intro zz;refine Qd Tryz.func119 rfl (by conv=>lhs;whnf) ?_;exact zz.out):A:=k ⟨h⟩
theorem Zgu (h:B) (k:Zh B→A:=by intro zz;refine Qg Tryz.func166 rfl Tryz.ntmps166 rfl ?_;exact zz.out):A:=k ⟨h⟩
theorem Zgv (h:B) (k:Zh B→A:=by intro zz;refine Qd Tryz.func166 rfl (by conv=>lhs;whnf) ?_;exact zz.out):A:=k ⟨h⟩
theorem Zgw (h:B) (k:Zh B→A:=by intro zz;refine QaF (cells:=[_,_]) hS (.cons (by conv=>lhs;whnf) .nil) rfl rfl ?_;exact zz.out):A:=k ⟨h⟩
theorem Zgx (h:B) (k:Zh B→A:=by intro zz;refine Qa (Q0 (sz:=2) rfl rfl rfl rfl (by omega) (by omega)) rfl ?_;exact zz.out):A:=k ⟨h⟩
theorem Zgy (h:B) (k:Zh B→A:=by intro zz;refine Qe rfl (fun _ hS=>Q0 (sz:=4) rfl rfl rfl rfl (by omega) (by omega)) rfl ?_;exact zz.out):A:=k ⟨h⟩
theorem Zgz (h:B) (k:Zh B→A:=by intro zz;refine Qd Tryz.func79 rfl (by conv=>lhs;whnf) ?_;exact zz.out):A:=k ⟨h⟩
theorem ZgA (h:B) (k:Zh B→A:=by intro zz;refine Calls.mono (Qu6 Qcc c _) ?_;exact zz.out):A:=k ⟨h⟩
theorem ZgB (h:B) (k:Zh B→A:=by intro zz;refine Qg Tryz.func131 rfl Tryz.ntmps131 rfl ?_;exact zz.out):A:=k ⟨h⟩
theorem ZgC (h:B) (k:Zh B→A:=by intro zz;refine Calls.mono (Qky l _) ?_;exact zz.out):A:=k ⟨h⟩
theorem ZgD (h:B) (k:Zh B→A:=by intro zz;refine Qfi Tryz.func48 rfl (by conv=>lhs;whnf) (by conv=>lhs;whnf) (by conv=>lhs;whnf) ?_;exact zz.out):A:=k ⟨h⟩
theorem ZgE (h:B) (k:Zh B→A:=by intro zz;refine Calls.mono (Qds E p.1 _ hE.rd h1 hE.ok hS) ?_;exact zz.out):A:=k ⟨h⟩
theorem ZgF (h:B) (k:Zh B→A:=by intro zz;refine Qa (QD (cells:=[_,_,_,_,_,_]) (.cons (by conv=>lhs;whnf) (.cons (by conv=>lhs;whnf) (.cons (by conv=>lhs;whnf) .nil))) rfl) rfl ?_;exact zz.out):A:=k ⟨h⟩
theorem ZgG (h:B) (k:Zh B→A:=by intro zz;refine Qa (QZ (sz:=4) rfl rfl rfl rfl (by omega) (by omega)) rfl ?_;exact zz.out):A:=k ⟨h⟩
theorem ZgH (h:B) (k:Zh B→A:=by intro zz;refine Qj rfl (fun _ ⟨_,hS⟩=>Qi (off:=3) rfl rfl) rfl ?_;exact zz.out):A:=k ⟨h⟩
theorem ZgI (h:B) (k:Zh B→A:=by intro zz;refine Qdp (cs:=[_]) hS rfl rfl rfl ?_;exact zz.out):A:=k ⟨h⟩
theorem ZgJ (h:B) (k:Zh B→A:=by intro zz;refine QQ Tryz.func62 rfl Tryz.ntmps62 rfl ?_;exact zz.out):A:=k ⟨h⟩
theorem ZgK (h:B) (k:Zh B→A:=by intro zz;refine QH (St _ _ _ _) 22 ((0,true)::(1,true)::(2,true)::(3,true)::(4,true)::(5,true)::(6,true)::(7,true)::(8,true)::(9,true)::(10,true)::(11,true)::(12,true)::(13,true)::(14,true)::(15,true)::(16,true)::(17,true)::(18,true)::(19,true)::(20,true)::(21,true)::[]) (by kernel_rfl) (by kernel_rfl) (hS.drew) ?_;exact zz.out):A:=k ⟨h⟩
theorem ZgL (h:B) (k:Zh B→A:=by intro zz;(first|refine Qe rfl (fun _ hS=>Qla rfl rfl (by assumption)) rfl ?_|refine Qe rfl (fun _ hS=>Qlb rfl rfl (by assumption)) rfl ?_|refine Qe rfl (fun _ hS=>Qjz rfl rfl) rfl ?_|refine Qe rfl (fun _ hS=>rfl) rfl ?_);exact zz.out):A:=k ⟨h⟩
theorem ZgM (h:B) (k:Zh B→A:=by intro zz;(first|refine Q3 rfl rfl rfl (fun _ hS=>Qb4 rfl rfl) rfl ?_|refine Q3 rfl rfl rfl (fun _ hS=>Qht rfl rfl (by first|assumption|omega)) rfl ?_|refine Q3 rfl rfl rfl (fun _ hS=>Qf9 rfl rfl (by omega)) rfl ?_|refine Q3 rfl rfl rfl (fun _ hS=>rfl) rfl ?_);exact zz.out):A:=k ⟨h⟩
theorem ZgN (h:B) (k:Zh B→A:=by intro zz;(first|refine Qa (Qf hS rfl rfl (by first|exact .head|exact .tail .head|exact .tail (.tail .head)|exact .tail (.tail (.tail .head))|exact .tail (.tail (.tail (.tail .head)))|exact .tail (.tail (.tail (.tail (.tail .head))))) (by repeat constructor)) rfl ?_|refine Qa (Qm rfl rfl (by first|assumption|exact hct _ hS|exact hpa _ hS|exact hpb _ hS|exact hS.cell0 (by assumption)|exact Qt hS|exact Qu hS)) rfl ?_);exact zz.out):A:=k ⟨h⟩
theorem ZgO (h:B) (k:Zh B→A:=by intro zz;(first|refine Qa (Qf hS rfl rfl (by first|exact .head|exact .tail .head|exact .tail (.tail .head)|exact .tail (.tail (.tail .head))|exact .tail (.tail (.tail (.tail .head)))|exact .tail (.tail (.tail (.tail (.tail .head))))) (by repeat constructor)) rfl ?_|refine Qa (Qm rfl rfl (by first|assumption|exact hcc _ hS|exact hcb _ hS|exact hcs _ hS|exact hS.cell0 (by assumption)|exact Qt hS|exact Qu hS)) rfl ?_);exact zz.out):A:=k ⟨h⟩
theorem ZgP (h:B) (k:Zh B→A:=by intro zz;refine Qd8 (sz:=2) hS Tryz.func190 rfl rfl (by conv=>lhs;whnf) rfl rfl (by first|exact .head|exact .tail .head|exact .tail (.tail .head)|exact .tail (.tail (.tail .head))|exact .tail (.tail (.tail (.tail .head)))|exact .tail (.tail (.tail (.tail (.tail .head))))) (by repeat constructor) ?_;exact zz.out):A:=k ⟨h⟩
theorem ZgQ (h:B) (k:Zh B→A:=by intro zz;refine Qbq (by first|exact hS.bare2|exact hS.drop.bare2|exact hS.drop.drop.bare2) ?_;exact zz.out):A:=k ⟨h⟩
theorem ZgR (h:B) (k:Zh B→A:=by intro zz;(first|refine Qe rfl (fun _ hS=>Qb (k:=3) hS rfl rfl rfl (by first|exact .head|exact .tail .head|exact .tail (.tail .head)|exact .tail (.tail (.tail .head))|exact .tail (.tail (.tail (.tail .head)))|exact .tail (.tail (.tail (.tail (.tail .head))))) (by repeat constructor)) rfl ?_|refine Qe rfl (fun _ hS=>Qb (k:=3) hS rfl rfl rfl (by first|exact .head|exact .tail .head|exact .tail (.tail .head)|exact .tail (.tail (.tail .head))|exact .tail (.tail (.tail (.tail .head)))|exact .tail (.tail (.tail (.tail (.tail .head))))) (by assumption)) rfl ?_|refine Qe rfl (fun _ hS=>QbB rfl rfl rfl (by first|assumption|exact (hcell _ hS).1|exact (hcell _ hS).2.1|exact (hcell _ hS).2.2|exact hS.cell0 (by assumption)) (by first|assumption|exact (hcell _ hS).1|exact (hcell _ hS).2.1|exact (hcell _ hS).2.2|exact hS.cell0 (by assumption)) (by first|assumption|exact (hcell _ hS).1|exact (hcell _ hS).2.1|exact (hcell _ hS).2.2|exact hS.cell0 (by assumption))) rfl ?_);exact zz.out):A:=k ⟨h⟩
theorem ZgS (h:B) (k:Zh B→A:=by intro zz;refine Qe rfl (fun _ hS=>Qi (off:=7) rfl rfl) rfl ?_;exact zz.out):A:=k ⟨h⟩
theorem ZgT (h:B) (k:Zh B→A:=by intro zz;refine Qa (Qi (off:=7) rfl rfl) rfl ?_;exact zz.out):A:=k ⟨h⟩
theorem ZgU (h:B) (k:Zh B→A:=by intro zz;refine QcH (Qfq (by kernel_rfl) (Qzs (by conv=>lhs;whnf) (by conv=>lhs;whnf) (by conv=>lhs;whnf) (by conv=>lhs;whnf) (by conv=>lhs;whnf))) rfl ?_;exact zz.out):A:=k ⟨h⟩
theorem ZgV (h:B) (k:Zh B→A:=by intro zz;(first|refine Qa (Qf hS rfl rfl (by first|exact .head|exact .tail .head|exact .tail (.tail .head)|exact .tail (.tail (.tail .head))|exact .tail (.tail (.tail (.tail .head)))|exact .tail (.tail (.tail (.tail (.tail .head))))) (by repeat constructor)) rfl ?_|refine Qa (Qm rfl rfl (by first|assumption|exact (hcl _ hS (by simp)).1|exact (hcl _ hS (by simp)).2.1|exact (hcl _ hS (by simp)).2.2.1|exact (hcl _ hS (by simp)).2.2.2|exact hS.cell0 (by assumption)|exact Qt hS|exact Qu hS)) rfl ?_);exact zz.out):A:=k ⟨h⟩
theorem ZgW (h:B) (k:Zh B→A:=by intro zz;(first|refine Qa (Qb (k:=4) hS rfl rfl rfl (by first|exact .head|exact .tail .head|exact .tail (.tail .head)|exact .tail (.tail (.tail .head))|exact .tail (.tail (.tail (.tail .head)))|exact .tail (.tail (.tail (.tail (.tail .head))))) (by repeat constructor)) rfl ?_|refine Qa (Qb (k:=4) hS rfl rfl rfl (by first|exact .head|exact .tail .head|exact .tail (.tail .head)|exact .tail (.tail (.tail .head))|exact .tail (.tail (.tail (.tail .head)))|exact .tail (.tail (.tail (.tail (.tail .head))))) (by assumption)) rfl ?_|refine Qa (Q7 rfl rfl rfl (by first|assumption|exact (hcl _ hS (by simp)).1|exact (hcl _ hS (by simp)).2.1|exact (hcl _ hS (by simp)).2.2.1|exact (hcl _ hS (by simp)).2.2.2|exact hS.cell0 (by assumption)) (by first|assumption|exact (hcl _ hS (by simp)).1|exact (hcl _ hS (by simp)).2.1|exact (hcl _ hS (by simp)).2.2.1|exact (hcl _ hS (by simp)).2.2.2|exact hS.cell0 (by assumption)) (by first|assumption|exact (hcl _ hS (by simp)).1|exact (hcl _ hS (by simp)).2.1|exact (hcl _ hS (by simp)).2.2.1|exact (hcl _ hS (by simp)).2.2.2|exact hS.cell0 (by assumption)) (by first|assumption|exact (hcl _ hS (by simp)).1|exact (hcl _ hS (by simp)).2.1|exact (hcl _ hS (by simp)).2.2.1|exact (hcl _ hS (by simp)).2.2.2|exact hS.cell0 (by assumption))) rfl ?_);exact zz.out):A:=k ⟨h⟩
theorem ZgX (h:B) (k:Zh B→A:=by intro zz;(first|refine Qe rfl (fun _ hS=>Qf hS rfl rfl (by first|exact .head|exact .tail .head|exact .tail (.tail .head)|exact .tail (.tail (.tail .head))|exact .tail (.tail (.tail (.tail .head)))|exact .tail (.tail (.tail (.tail (.tail .head))))) (by repeat constructor)) rfl ?_|refine Qe rfl (fun _ hS=>Qm rfl rfl (by first|assumption|exact (hcell _ hS).1|exact (hcell _ hS).2.1|exact (hcell _ hS).2.2|exact hll _ hS (by simp)|exact hS.cell0 (by assumption)|exact Qt hS|exact Qu hS)) rfl ?_);exact zz.out):A:=k ⟨h⟩
theorem ZgY (h:B) (k:Zh B→A:=by intro zz;refine QcH (Qfq (by kernel_rfl) (Qzt (by conv=>lhs;whnf) (by conv=>lhs;whnf) (by conv=>lhs;whnf) (by conv=>lhs;whnf))) rfl ?_;exact zz.out):A:=k ⟨h⟩
theorem ZgZ (h:B) (k:Zh B→A:=by intro zz;refine QaK Tryz.func21 rfl (by conv=>lhs;whnf) (by conv=>lhs;whnf) ?_;exact zz.out):A:=k ⟨h⟩
theorem Zg0 (h:B) (k:Zh B→A:=by intro zz;refine QaK Tryz.func27 rfl (by conv=>lhs;whnf) (by conv=>lhs;whnf) ?_;exact zz.out):A:=k ⟨h⟩
theorem Zhr (h:B) (k:Zh B→A:=by intro zz;refine Qg Tryz.func107 rfl Tryz.ntmps107 rfl ?_;exact zz.out):A:=k ⟨h⟩
theorem Zhs (h:B) (k:Zh B→A:=by intro zz;refine Qg Tryz.func69 rfl Tryz.ntmps69 rfl ?_;exact zz.out):A:=k ⟨h⟩
theorem Zht (h:B) (k:Zh B→A:=by intro zz;refine QH (St M w0 _ _) 12 ((0,true)::(1,true)::(2,true)::(3,true)::(5,true)::(6,true)::(7,true)::(8,true)::(9,true)::(4,false)::(10,false)::(11,true)::[]) (by kernel_rfl) (by kernel_rfl) (hS.drew) ?_;exact zz.out):A:=k ⟨h⟩
theorem Zhu (h:B) (k:Zh B→A:=by intro zz;refine Qa (Qei rfl rfl (Lib.run_unsafeString_none _ _ _ _ _)) rfl ?_;exact zz.out):A:=k ⟨h⟩
theorem Zhv (h:B) (k:Zh B→A:=by intro zz;refine Qa (QfQ rfl rfl rfl (by omega) (by first|omega|(simp;done)|(simp;omega))) rfl ?_;exact zz.out):A:=k ⟨h⟩
theorem Zhw (h:B) (k:Zh B→A:=by intro zz;refine (Qnx vars k1 n1 s1 ar _ _ (hv1.below hX) hnod).mono ?_;exact zz.out):A:=k ⟨h⟩
theorem Zhx (h:B) (k:Zh B→A:=by intro zz;refine QaF (cells:=[_,_,_,_,_,_]) hS (.cons (by conv=>lhs;whnf) .nil) rfl rfl ?_;exact zz.out):A:=k ⟨h⟩
theorem Zhy (h:B) (k:Zh B→A:=by intro zz;(first|refine Qa (QkG rfl rfl rfl) rfl ?_|refine Qa (rfl) rfl ?_);exact zz.out):A:=k ⟨h⟩
theorem Zhz (h:B) (k:Zh B→A:=by intro zz;(first|refine Qe rfl (fun _ hS=>Qb (k:=4) hS rfl rfl rfl (by first|exact .head|exact .tail .head|exact .tail (.tail .head)|exact .tail (.tail (.tail .head))|exact .tail (.tail (.tail (.tail .head)))|exact .tail (.tail (.tail (.tail (.tail .head))))) (by repeat constructor)) rfl ?_|refine Qe rfl (fun _ hS=>Qb (k:=4) hS rfl rfl rfl (by first|exact .head|exact .tail .head|exact .tail (.tail .head)|exact .tail (.tail (.tail .head))|exact .tail (.tail (.tail (.tail .head)))|exact .tail (.tail (.tail (.tail (.tail .head))))) (by assumption)) rfl ?_|refine Qe rfl (fun _ hS=>Q7 rfl rfl rfl (by first|assumption|exact hS.cell0 (by assumption)) (by first|assumption|exact hS.cell0 (by assumption)) (by first|assumption|exact hS.cell0 (by assumption)) (by first|assumption|exact hS.cell0 (by assumption))) rfl ?_);exact zz.out):A:=k ⟨h⟩
theorem ZhA (h:B) (k:Zh B→A:=by intro zz;(first|refine Qe rfl (fun _ hS=>QtV rfl rfl (by omega) (by omega)) rfl ?_|refine Qe rfl (fun _ hS=>Qk2 rfl rfl) rfl ?_);exact zz.out):A:=k ⟨h⟩
theorem ZhB (h:B) (k:Zh B→A:=by intro zz;refine Qa (Qhu rfl rfl (by first|omega|(simp;done)|(simp;omega))) rfl ?_;exact zz.out):A:=k ⟨h⟩
theorem ZhC (h:B) (k:Zh B→A:=by intro zz;refine Qd Tryz.func37 rfl (by conv=>lhs;whnf) ?_;exact zz.out):A:=k ⟨h⟩
theorem ZhD (h:B) (k:Zh B→A:=by intro zz;refine QcT (by first|exact hS.bare1|exact hS.drop.bare1|exact hS.drop.drop.bare1|exact hS.drop.drop.drop.bare1) ?_;exact zz.out):A:=k ⟨h⟩
theorem ZhE (h:B) (k:Zh B→A:=by intro zz;(first|refine Qa (Qf hS rfl rfl (by first|exact .head|exact .tail .head|exact .tail (.tail .head)|exact .tail (.tail (.tail .head))|exact .tail (.tail (.tail (.tail .head)))|exact .tail (.tail (.tail (.tail (.tail .head))))) (by repeat constructor)) rfl ?_|refine Qa (Qm rfl rfl (by first|assumption|exact (hcc _ hS).1|exact (hcc _ hS).2.1|exact (hcc _ hS).2.2.1|exact (hcc _ hS).2.2.2.1|exact (hcc _ hS).2.2.2.2.1|exact (hcc _ hS).2.2.2.2.2|exact hS.cell0 (by assumption)|exact Qt hS|exact Qu hS)) rfl ?_);exact zz.out):A:=k ⟨h⟩
theorem ZhF (h:B) (k:Zh B→A:=by intro zz;(first|refine Qe rfl (fun _ hS=>Qf hS rfl rfl (by first|exact .head|exact .tail .head|exact .tail (.tail .head)|exact .tail (.tail (.tail .head))|exact .tail (.tail (.tail (.tail .head)))|exact .tail (.tail (.tail (.tail (.tail .head))))) (by repeat constructor)) rfl ?_|refine Qe rfl (fun _ hS=>Qm rfl rfl (by first|assumption|exact (hcc _ hS).1|exact (hcc _ hS).2.1|exact (hcc _ hS).2.2.1|exact (hcc _ hS).2.2.2.1|exact (hcc _ hS).2.2.2.2.1|exact (hcc _ hS).2.2.2.2.2|exact hS.cell0 (by assumption)|exact Qt hS|exact Qu hS)) rfl ?_);exact zz.out):A:=k ⟨h⟩
theorem ZhG (h:B) (k:Zh B→A:=by intro zz;refine Qmt (u:=x) hS (by conv=>lhs;whnf) (by rfl) rfl rfl rfl (QG.own (sp:=[]) (hS.own (_,_) (.head _)) rfl (Nat.le_refl _)) hrw (List.perm_append_comm_assoc [_,_] Os _) (by rw [List.length_append,List.length_reverse];omega) rfl ?_;exact zz.out):A:=k ⟨h⟩
theorem ZhH (h:B) (k:Zh B→A:=by intro zz;refine Qj rfl (fun _ ⟨_,hS⟩=>Qbm rfl) rfl ?_;exact zz.out):A:=k ⟨h⟩
theorem ZhI (h:B) (k:Zh B→A:=by intro zz;refine Qe rfl (fun _ hS=>QtY rfl rfl (by omega) (by omega)) rfl ?_;exact zz.out):A:=k ⟨h⟩
theorem ZhJ (h:B) (k:Zh B→A:=by intro zz;refine Qd Tryz.func185 rfl (by conv=>lhs;whnf) ?_;exact zz.out):A:=k ⟨h⟩
theorem ZhK (h:B) (k:Zh B→A:=by intro zz;refine Qa (Qmf rfl rfl rfl) rfl ?_;exact zz.out):A:=k ⟨h⟩
theorem ZhL (h:B) (k:Zh B→A:=by intro zz;(first|refine Qa (Qb (k:=3) hS rfl rfl rfl (by first|exact .head|exact .tail .head|exact .tail (.tail .head)|exact .tail (.tail (.tail .head))|exact .tail (.tail (.tail (.tail .head)))|exact .tail (.tail (.tail (.tail (.tail .head))))) (by repeat constructor)) rfl ?_|refine Qa (Qb (k:=3) hS rfl rfl rfl (by first|exact .head|exact .tail .head|exact .tail (.tail .head)|exact .tail (.tail (.tail .head))|exact .tail (.tail (.tail (.tail .head)))|exact .tail (.tail (.tail (.tail (.tail .head))))) (by assumption)) rfl ?_|refine Qa (QbB rfl rfl rfl (by first|assumption|exact (hcc _ hS).1|exact (hcc _ hS).2.1|exact (hcc _ hS).2.2|exact hcb _ hS|exact hcs _ hS|exact hS.cell0 (by assumption)) (by first|assumption|exact (hcc _ hS).1|exact (hcc _ hS).2.1|exact (hcc _ hS).2.2|exact hcb _ hS|exact hcs _ hS|exact hS.cell0 (by assumption)) (by first|assumption|exact (hcc _ hS).1|exact (hcc _ hS).2.1|exact (hcc _ hS).2.2|exact hcb _ hS|exact hcs _ hS|exact hS.cell0 (by assumption))) rfl ?_);exact zz.out):A:=k ⟨h⟩
theorem ZhM (h:B) (k:Zh B→A:=by intro zz;refine QhG (sz:=2) hS Tryz.func90 rfl rfl (by conv=>lhs;whnf) (by conv=>lhs;whnf) rfl rfl (by first|exact .head|exact .tail .head|exact .tail (.tail .head)|exact .tail (.tail (.tail .head))|exact .tail (.tail (.tail (.tail .head)))|exact .tail (.tail (.tail (.tail (.tail .head))))) (by repeat constructor) ?_;exact zz.out):A:=k ⟨h⟩
theorem ZhN (h:B) (k:Zh B→A:=by intro zz;refine Qd8 (sz:=2) hS Tryz.func189 rfl rfl (by conv=>lhs;whnf) rfl rfl (by first|exact .head|exact .tail .head|exact .tail (.tail .head)|exact .tail (.tail (.tail .head))|exact .tail (.tail (.tail (.tail .head)))|exact .tail (.tail (.tail (.tail (.tail .head))))) (by repeat constructor) ?_;exact zz.out):A:=k ⟨h⟩
theorem ZhO (h:B) (k:Zh B→A:=by intro zz;refine Qd Tryz.func239 rfl (by conv=>lhs;whnf) ?_;exact zz.out):A:=k ⟨h⟩
theorem ZhP (h:B) (k:Zh B→A:=by intro zz;refine QH (St _ _ _ _) 17 ((0,true)::(1,true)::(2,true)::(3,true)::(4,true)::(5,true)::(6,true)::(7,true)::(8,true)::(9,true)::(10,true)::(11,true)::(12,true)::(13,true)::(14,true)::(15,true)::(16,true)::[]) (by kernel_rfl) (by kernel_rfl) (hS.drew) ?_;exact zz.out):A:=k ⟨h⟩
theorem ZhQ (h:B) (k:Zh B→A:=by intro zz;refine QhG (sz:=4) hS Tryz.func91 rfl rfl (by conv=>lhs;whnf) (by conv=>lhs;whnf) rfl rfl (by first|exact .head|exact .tail .head|exact .tail (.tail .head)|exact .tail (.tail (.tail .head))|exact .tail (.tail (.tail (.tail .head)))|exact .tail (.tail (.tail (.tail (.tail .head))))) (by repeat constructor) ?_;exact zz.out):A:=k ⟨h⟩
theorem ZhR (h:B) (k:Zh B→A:=by intro zz;refine Qa (QD (cells:=[_,_,_]) (.cons (by conv=>lhs;whnf) (.cons (by conv=>lhs;whnf) .nil)) rfl) rfl ?_;exact zz.out):A:=k ⟨h⟩
theorem ZhS (h:B) (k:Zh B→A:=by intro zz;refine Qd Tryz.func100 rfl (by conv=>lhs;whnf) ?_;exact zz.out):A:=k ⟨h⟩
theorem ZhT (h:B) (k:Zh B→A:=by intro zz;refine Qd Tryz.func98 rfl (by conv=>lhs;whnf) ?_;exact zz.out):A:=k ⟨h⟩
theorem ZhU (h:B) (k:Zh B→A:=by intro zz;refine Qd Tryz.func31 rfl (by conv=>lhs;whnf) ?_;exact zz.out):A:=k ⟨h⟩
theorem ZhV (h:B) (k:Zh B→A:=by intro zz;(first|refine Q3 rfl rfl rfl (fun _ hS=>Qf hS rfl rfl (by first|exact .head|exact .tail .head|exact .tail (.tail .head)|exact .tail (.tail (.tail .head))|exact .tail (.tail (.tail (.tail .head)))|exact .tail (.tail (.tail (.tail (.tail .head))))) (by repeat constructor)) rfl ?_|refine Q3 rfl rfl rfl (fun _ hS=>Qm rfl rfl (by first|assumption|exact hS.cell0 (by assumption)|exact Qt hS|exact Qu hS)) rfl ?_);exact zz.out):A:=k ⟨h⟩
theorem ZhW (h:B) (k:Zh B→A:=by intro zz;(first|refine Qa (Qf hS rfl rfl (by first|exact .head|exact .tail .head|exact .tail (.tail .head)|exact .tail (.tail (.tail .head))|exact .tail (.tail (.tail (.tail .head)))|exact .tail (.tail (.tail (.tail (.tail .head))))) (by repeat constructor)) rfl ?_|refine Qa (Qm rfl rfl (by first|assumption|exact (hcell _ hS).1|exact (hcell _ hS).2.1|exact (hcell _ hS).2.2|exact (hll _ hS (by simp)).1|exact (hll _ hS (by simp)).2.1|exact (hll _ hS (by simp)).2.2|exact hS.cell0 (by assumption)|exact Qt hS|exact Qu hS)) rfl ?_);exact zz.out):A:=k ⟨h⟩
theorem ZhX (h:B) (k:Zh B→A:=by intro zz;(first|refine Qa (Qf hS rfl rfl (by first|exact .head|exact .tail .head|exact .tail (.tail .head)|exact .tail (.tail (.tail .head))|exact .tail (.tail (.tail (.tail .head)))|exact .tail (.tail (.tail (.tail (.tail .head))))) (by repeat constructor)) rfl ?_|refine Qa (Qm rfl rfl (by first|assumption|exact hk _ hS|exact hll' _ hS (by simp)|exact hS.cell0 (by assumption)|exact Qt hS|exact Qu hS)) rfl ?_);exact zz.out):A:=k ⟨h⟩
theorem ZhY (h:B) (k:Zh B→A:=by intro zz;(first|refine Qe rfl (fun _ hS=>Qf hS rfl rfl (by first|exact .head|exact .tail .head|exact .tail (.tail .head)|exact .tail (.tail (.tail .head))|exact .tail (.tail (.tail (.tail .head)))|exact .tail (.tail (.tail (.tail (.tail .head))))) (by repeat constructor)) rfl ?_|refine Qe rfl (fun _ hS=>Qm rfl rfl (by first|assumption|exact hc1 _ hS|exact hc2 _ hS|exact hS.cell0 (by assumption)|exact Qt hS|exact Qu hS)) rfl ?_);exact zz.out):A:=k ⟨h⟩
theorem ZhZ (h:B) (k:Zh B→A:=by intro zz;refine Qd Tryz.func18 rfl (by conv=>lhs;whnf) ?_;exact zz.out):A:=k ⟨h⟩
theorem Zik (h:B) (k:Zh B→A:=by intro zz;refine QaK Tryz.func24 rfl (by conv=>lhs;whnf) (by conv=>lhs;whnf) ?_;exact zz.out):A:=k ⟨h⟩
theorem Zil (h:B) (k:Zh B→A:=by intro zz;refine Qd Tryz.func203 rfl (by conv=>lhs;whnf) ?_;exact zz.out):A:=k ⟨h⟩
theorem Zim (h:B) (k:Zh B→A:=by intro zz;refine QH (St _ w0 [_] _) 10 ((0,true)::(1,true)::(2,true)::(3,true)::(4,true)::(5,true)::(6,true)::(7,true)::(8,true)::(9,true)::[]) (by kernel_rfl) (by kernel_rfl) (hS.drew.only1) ?_;exact zz.out):A:=k ⟨h⟩
theorem Zin (h:B) (k:Zh B→A:=by intro zz;(first|refine Qj rfl (fun _ hS=>Qb (k:=4) hS rfl rfl rfl (by first|exact .head|exact .tail .head|exact .tail (.tail .head)|exact .tail (.tail (.tail .head))|exact .tail (.tail (.tail (.tail .head)))|exact .tail (.tail (.tail (.tail (.tail .head))))) (by repeat constructor)) rfl ?_|refine Qj rfl (fun _ hS=>Qb (k:=4) hS rfl rfl rfl (by first|exact .head|exact .tail .head|exact .tail (.tail .head)|exact .tail (.tail (.tail .head))|exact .tail (.tail (.tail (.tail .head)))|exact .tail (.tail (.tail (.tail (.tail .head))))) (by assumption)) rfl ?_|refine Qj rfl (fun _ hS=>Q7 rfl rfl rfl (by first|assumption|exact hS.cell0 (by assumption)) (by first|assumption|exact hS.cell0 (by assumption)) (by first|assumption|exact hS.cell0 (by assumption)) (by first|assumption|exact hS.cell0 (by assumption))) rfl ?_);exact zz.out):A:=k ⟨h⟩
theorem Zio (h:B) (k:Zh B→A:=by intro zz;refine QH (St _ _ _ _) 7 ((0,true)::(1,true)::(2,true)::(3,true)::(4,true)::(5,true)::(6,true)::[]) (by kernel_rfl) (by kernel_rfl) (hS.drew) ?_;exact zz.out):A:=k ⟨h⟩
theorem Zip (h:B) (k:Zh B→A:=by intro zz;refine QcT (by first|exact ⟨_,hS⟩|exact ⟨_,hS.drop⟩|exact ⟨_,hS.forget hF2⟩|exact ⟨_,hS.drop.forget hF2⟩) ?_;exact zz.out):A:=k ⟨h⟩
theorem Ziq (h:B) (k:Zh B→A:=by intro zz;refine Qd Tryz.func102 rfl (by conv=>lhs;whnf) ?_;exact zz.out):A:=k ⟨h⟩
theorem Zir (h:B) (k:Zh B→A:=by intro zz;refine QcT (by first|exact ⟨_,hS⟩|exact ⟨_,hS.drop⟩|exact ⟨_,hS.forget hF7⟩|exact ⟨_,hS.drop.forget hF7⟩) ?_;exact zz.out):A:=k ⟨h⟩
theorem Zis (h:B) (k:Zh B→A:=by intro zz;(first|refine Qa (Qb (k:=4) hS rfl rfl rfl (by first|exact .head|exact .tail .head|exact .tail (.tail .head)|exact .tail (.tail (.tail .head))|exact .tail (.tail (.tail (.tail .head)))|exact .tail (.tail (.tail (.tail (.tail .head))))) (by repeat constructor)) rfl ?_|refine Qa (Qb (k:=4) hS rfl rfl rfl (by first|exact .head|exact .tail .head|exact .tail (.tail .head)|exact .tail (.tail (.tail .head))|exact .tail (.tail (.tail (.tail .head)))|exact .tail (.tail (.tail (.tail (.tail .head))))) (by assumption)) rfl ?_|refine Qa (Q7 rfl rfl rfl (by first|assumption|exact (hpc _ hS).1|exact (hpc _ hS).2.1|exact (hpc _ hS).2.2.1|exact (hpc _ hS).2.2.2.1|exact (hpc _ hS).2.2.2.2.1|exact (hpc _ hS).2.2.2.2.2|exact hS.cell0 (by assumption)) (by first|assumption|exact (hpc _ hS).1|exact (hpc _ hS).2.1|exact (hpc _ hS).2.2.1|exact (hpc _ hS).2.2.2.1|exact (hpc _ hS).2.2.2.2.1|exact (hpc _ hS).2.2.2.2.2|exact hS.cell0 (by assumption)) (by first|assumption|exact (hpc _ hS).1|exact (hpc _ hS).2.1|exact (hpc _ hS).2.2.1|exact (hpc _ hS).2.2.2.1|exact (hpc _ hS).2.2.2.2.1|exact (hpc _ hS).2.2.2.2.2|exact hS.cell0 (by assumption)) (by first|assumption|exact (hpc _ hS).1|exact (hpc _ hS).2.1|exact (hpc _ hS).2.2.1|exact (hpc _ hS).2.2.2.1|exact (hpc _ hS).2.2.2.2.1|exact (hpc _ hS).2.2.2.2.2|exact hS.cell0 (by assumption))) rfl ?_);exact zz.out):A:=k ⟨h⟩
theorem Zit (h:B) (k:Zh B→A:=by intro zz;refine Qe rfl (fun _ hS=>Qi (off:=5) rfl rfl) rfl ?_;exact zz.out):A:=k ⟨h⟩
theorem Ziu (h:B) (k:Zh B→A:=by intro zz;refine Qd Tryz.func142 rfl (by conv=>lhs;whnf) ?_;exact zz.out):A:=k ⟨h⟩
theorem Ziv (h:B) (k:Zh B→A:=by intro zz;refine Qd Tryz.func140 rfl (by conv=>lhs;whnf) ?_;exact zz.out):A:=k ⟨h⟩
theorem Ziw (h:B) (k:Zh B→A:=by intro zz;refine Qd Tryz.func215 rfl (by conv=>lhs;whnf) ?_;exact zz.out):A:=k ⟨h⟩
theorem Zix (h:B) (k:Zh B→A:=by intro zz;refine Qd Tryz.func218 rfl (by conv=>lhs;whnf) ?_;exact zz.out):A:=k ⟨h⟩
theorem Ziy (h:B) (k:Zh B→A:=by intro zz;refine QsP (sz:=2) hS Tryz.func95 rfl rfl (by conv=>lhs;whnf) (by conv=>lhs;whnf) (by conv=>lhs;whnf) (by conv=>lhs;whnf) rfl rfl (by first|exact .head|exact .tail .head|exact .tail (.tail .head)|exact .tail (.tail (.tail .head))|exact .tail (.tail (.tail (.tail .head)))|exact .tail (.tail (.tail (.tail (.tail .head))))) (by repeat constructor) ?_;exact zz.out):A:=k ⟨h⟩
theorem Ziz (h:B) (k:Zh B→A:=by intro zz;refine Qj rfl (fun _ hS=>Qi (off:=1) rfl rfl) rfl ?_;exact zz.out):A:=k ⟨h⟩
theorem ZiA (h:B) (k:Zh B→A:=by intro zz;refine Calls.mono (QpU h.tr N Mk h.tr.length hNl B _ A6 d _ c6 _ ((hTr.mono hF27).mono hF8) ((hN.mono (fun φ h=>hF7 φ (hF6 φ h))).mono hF8) (hS6'.mono hF8) (fun a ha=>by rw [hml];exact htr a ha) hl2 rfl hS) ?_;exact zz.out):A:=k ⟨h⟩
theorem ZiB (h:B) (k:Zh B→A:=by intro zz;refine Qd Tryz.func220 rfl (by conv=>lhs;whnf) ?_;exact zz.out):A:=k ⟨h⟩
theorem ZiC (h:B) (k:Zh B→A:=by intro zz;refine Qd Tryz.func223 rfl (by conv=>lhs;whnf) ?_;exact zz.out):A:=k ⟨h⟩
theorem ZiD (h:B) (k:Zh B→A:=by intro zz;refine Qd Tryz.func224 rfl (by conv=>lhs;whnf) ?_;exact zz.out):A:=k ⟨h⟩
theorem ZiE (h:B) (k:Zh B→A:=by intro zz;(first|refine Qj rfl (fun _ hS=>Qf hS rfl rfl (by first|exact .head|exact .tail .head|exact .tail (.tail .head)|exact .tail (.tail (.tail .head))|exact .tail (.tail (.tail (.tail .head)))|exact .tail (.tail (.tail (.tail (.tail .head))))) (by repeat constructor)) rfl ?_|refine Qj rfl (fun _ hS=>Qm rfl rfl (by first|assumption|exact hS.cell0 (by assumption)|exact Qt hS|exact Qu hS)) rfl ?_);exact zz.out):A:=k ⟨h⟩
theorem ZiF (h:B) (k:Zh B→A:=by intro zz;refine QcT (by first|exact hS|exact hS.drop|exact hS.drop.drop|exact hS.drop.drop.drop|exact hS.unlearn|exact hS.unlearn.drop|exact hS.unlearn.drop.drop|exact hS.dropL|exact hS.dropL.dropL|exact hS.drop.dropL.dropL) ?_;exact zz.out):A:=k ⟨h⟩
theorem ZiG (h:B) (k:Zh B→A:=by intro zz;refine Qe rfl (fun _ hS=>Qi (off:=4) rfl rfl) rfl ?_;exact zz.out):A:=k ⟨h⟩
theorem ZiH (h:B) (k:Zh B→A:=by intro zz;refine QcN (sz:=3) hS Tryz.func138 rfl rfl rfl rfl (by first|exact .head|exact .tail .head|exact .tail (.tail .head)|exact .tail (.tail (.tail .head))|exact .tail (.tail (.tail (.tail .head)))|exact .tail (.tail (.tail (.tail (.tail .head))))) (by repeat constructor) ?_;exact zz.out):A:=k ⟨h⟩
theorem ZiI (h:B) (k:Zh B→A:=by intro zz;(first|refine Qe rfl (fun _ hS=>Qf hS rfl rfl (by first|exact .head|exact .tail .head|exact .tail (.tail .head)|exact .tail (.tail (.tail .head))|exact .tail (.tail (.tail (.tail .head)))|exact .tail (.tail (.tail (.tail (.tail .head))))) (by repeat constructor)) rfl ?_|refine Qe rfl (fun _ hS=>Qm rfl rfl (by first|assumption|exact (hll _ hS (by repeat constructor)).1|exact (hll _ hS (by repeat constructor)).2.1|exact (hll _ hS (by repeat constructor)).2.2|exact hS.cell0 (by assumption)|exact Qt hS|exact Qu hS)) rfl ?_);exact zz.out):A:=k ⟨h⟩
theorem ZiJ (h:B) (k:Zh B→A:=by intro zz;(first|refine Qj rfl (fun _ ⟨_,hS⟩=>Qf hS rfl rfl (by first|exact .head|exact .tail .head|exact .tail (.tail .head)|exact .tail (.tail (.tail .head))|exact .tail (.tail (.tail (.tail .head)))|exact .tail (.tail (.tail (.tail (.tail .head))))) (by repeat constructor)) rfl ?_|refine Qj rfl (fun _ ⟨_,hS⟩=>Qm rfl rfl (by first|assumption|exact (hll _ hS (by repeat constructor)).1|exact (hll _ hS (by repeat constructor)).2.1|exact (hll _ hS (by repeat constructor)).2.2|exact hS.cell0 (by assumption)|exact Qt hS|exact Qu hS)) rfl ?_);exact zz.out):A:=k ⟨h⟩
theorem ZiK (h:B) (k:Zh B→A:=by intro zz;refine Qfi Tryz.func154 rfl (by conv=>lhs;whnf) (by conv=>lhs;whnf) (by conv=>lhs;whnf) ?_;exact zz.out):A:=k ⟨h⟩
theorem ZiL (h:B) (k:Zh B→A:=by intro zz;refine QH (St _ _ _ _) 16 ((0,true)::(1,true)::(2,true)::(3,true)::(4,true)::(5,true)::(6,true)::(7,true)::(8,true)::(9,true)::(10,true)::(11,true)::(12,true)::(13,true)::(14,true)::(15,true)::[]) (by kernel_rfl) (by kernel_rfl) (hS.drew) ?_;exact zz.out):A:=k ⟨h⟩
theorem ZiM (h:B) (k:Zh B→A:=by intro zz;refine Qe rfl (fun _ hS=>Qi (off:=10) rfl rfl) rfl ?_;exact zz.out):A:=k ⟨h⟩
theorem ZiN (h:B) (k:Zh B→A:=by intro zz;refine Qe rfl (fun _ hS=>Qi (off:=6) rfl rfl) rfl ?_;exact zz.out):A:=k ⟨h⟩
theorem ZiO (h:B) (k:Zh B→A:=by intro zz;(first|refine Qe rfl (fun _ hS=>Qjw rfl rfl (by omega)) rfl ?_|refine Qe rfl (fun _ hS=>Qk8 rfl rfl (by omega)) rfl ?_|refine Qe rfl (fun _ hS=>rfl) rfl ?_);exact zz.out):A:=k ⟨h⟩
theorem ZiP (h:B) (k:Zh B→A:=by intro zz;(first|refine Qe rfl (fun _ hS=>Qf hS rfl rfl (by first|exact .head|exact .tail .head|exact .tail (.tail .head)|exact .tail (.tail (.tail .head))|exact .tail (.tail (.tail (.tail .head)))|exact .tail (.tail (.tail (.tail (.tail .head))))) (by repeat constructor)) rfl ?_|refine Qe rfl (fun _ hS=>Qm rfl rfl (by first|assumption|exact hk _ hS|exact hg _ hS|exact hS.cell0 (by assumption)|exact Qt hS|exact Qu hS)) rfl ?_);exact zz.out):A:=k ⟨h⟩
theorem ZiQ (h:B) (k:Zh B→A:=by intro zz;refine QaK Tryz.func15 rfl (by conv=>lhs;whnf) (by conv=>lhs;whnf) ?_;exact zz.out):A:=k ⟨h⟩
theorem Zja (h:B) (k:Zh B→A:=by intro zz;refine Qa (QfT rfl (Lib.run_to_unsafe (P:=Tryz.prog) w (t:=118) ⟨b,0,none⟩ rfl rfl rfl (by decide) hsh (by simp))) rfl ?_;exact zz.out):A:=k ⟨h⟩
theorem Zjb (h:B) (k:Zh B→A:=by intro zz;refine Qa (Qpw (ex:=Extern.AbiNoEscape.same) (QrM rfl) Tryz.func164 (by kernel_rfl) (by kernel_rfl) (by kernel_rfl) (by kernel_rfl) (Lib.run_noEscape w _)) rfl ?_;exact zz.out):A:=k ⟨h⟩
theorem Zjc (h:B) (k:Zh B→A:=by intro zz;refine Qa (QfT rfl (Lib.run_from_unsafe (P:=Tryz.prog) w (u:=118) ⟨b,0,none⟩ rfl rfl rfl hsh (by kernel_rfl))) rfl ?_;exact zz.out):A:=k ⟨h⟩
theorem Zjd (h:B) (k:Zh B→A:=by intro zz;refine Qar (sz:=1) (bts:=1) hS (by conv=>lhs;whnf) rfl rfl rfl rfl (hB) rfl rfl (.cons _ List.perm_middle.symm) (by omega) (by omega) rfl ?_;exact zz.out):A:=k ⟨h⟩
theorem Zje (h:B) (k:Zh B→A:=by intro zz;refine QH (fun _=>True) 13 ((0,true)::(1,true)::(2,true)::(3,true)::(4,true)::(5,true)::(6,true)::(7,true)::(8,true)::(9,true)::(10,false)::(11,true)::(12,true)::[]) (by kernel_rfl) (by kernel_rfl) (trivial) ?_;exact zz.out):A:=k ⟨h⟩
theorem Zjf (h:B) (k:Zh B→A:=by intro zz;refine Qe rfl (fun _ hS=>Qh5 rfl rfl rfl (by omega) (by first|omega|(simp;done)|(simp;omega))) rfl ?_;exact zz.out):A:=k ⟨h⟩
theorem Zjg (h:B) (k:Zh B→A:=by intro zz;refine Qe rfl (fun _ hS=>QfQ rfl rfl rfl (by omega) (by first|omega|(simp;done)|(simp;omega))) rfl ?_;exact zz.out):A:=k ⟨h⟩
theorem Zjh (h:B) (k:Zh B→A:=by intro zz;refine Qa (QD (cells:=[_,_,_,_]) (.cons (by conv=>lhs;whnf) (.cons (by conv=>lhs;whnf) (.cons (by conv=>lhs;whnf) .nil))) rfl) rfl ?_;exact zz.out):A:=k ⟨h⟩
theorem Zji (h:B) (k:Zh B→A:=by intro zz;refine Calls.mono (L3 (c::r) s.adv A _ vc M w0 _ _ F b hG (by rw [←htk];unfold RS.left at hl;omega) hS) ?_;exact zz.out):A:=k ⟨h⟩
theorem Zjj (h:B) (k:Zh B→A:=by intro zz;refine QcN (sz:=6) hS Tryz.func41 rfl rfl rfl rfl (by first|exact .head|exact .tail .head|exact .tail (.tail .head)|exact .tail (.tail (.tail .head))|exact .tail (.tail (.tail (.tail .head)))|exact .tail (.tail (.tail (.tail (.tail .head))))) (by repeat constructor) ?_;exact zz.out):A:=k ⟨h⟩
theorem Zjk (h:B) (k:Zh B→A:=by intro zz;refine QH (St M w0 _ _) 6 ((0,true)::(1,true)::(2,true)::(3,true)::(4,true)::(5,true)::[]) (by kernel_rfl) (by kernel_rfl) (hS.drew) ?_;exact zz.out):A:=k ⟨h⟩
theorem Zjl (h:B) (k:Zh B→A:=by intro zz;refine QH (St M w0 _ _) 9 ((0,true)::(1,true)::(2,true)::(3,true)::(4,true)::(5,true)::(6,true)::(7,true)::(8,true)::[]) (by kernel_rfl) (by kernel_rfl) (hS.drew) ?_;exact zz.out):A:=k ⟨h⟩
theorem Zjm (h:B) (k:Zh B→A:=by intro zz;refine Qbq (by first|exact hS.only2|exact hS.drop.only2|exact hS.unlearn.only2|exact hS.unlearn.drop.only2) ?_;exact zz.out):A:=k ⟨h⟩
theorem Zjn (h:B) (k:Zh B→A:=by intro zz;refine QH (St _ w0 [_] _) 12 ((0,true)::(1,true)::(2,true)::(3,true)::(4,true)::(5,true)::(6,true)::(7,true)::(8,true)::(9,true)::(10,true)::(11,true)::[]) (by kernel_rfl) (by kernel_rfl) (hS.drew.only1) ?_;exact zz.out):A:=k ⟨h⟩
theorem Zjo (h:B) (k:Zh B→A:=by intro zz;refine Qa (QfS rfl (Lib.run_convert_string_bytes _ _ _ 5 _ (u:= .string) (by kernel_rfl) (by kernel_rfl) (by kernel_rfl))) rfl ?_;exact zz.out):A:=k ⟨h⟩
theorem Zjp (h:B) (k:Zh B→A:=by intro zz;refine QH (St _ w0 [_] _) 9 ((0,true)::(1,true)::(2,true)::(3,true)::(4,true)::(5,false)::(6,false)::(7,false)::(8,true)::[]) (by kernel_rfl) (by kernel_rfl) (hS.drew.only1) ?_;exact zz.out):A:=k ⟨h⟩
theorem Zjq (h:B) (k:Zh B→A:=by intro zz;(first|refine Qa (QnD rfl rfl) rfl ?_|refine Qa (QqQ rfl rfl (by omega) (by omega) (by omega)) rfl ?_|refine Qa (QqR rfl rfl (by omega) (by omega)) rfl ?_);exact zz.out):A:=k ⟨h⟩
theorem Zjr (h:B) (k:Zh B→A:=by intro zz;refine QH (St _ _ _ _) 8 ((0,true)::(1,true)::(2,true)::(3,true)::(4,false)::(5,true)::(6,true)::(7,true)::[]) (by kernel_rfl) (by kernel_rfl) (hS.drew) ?_;exact zz.out):A:=k ⟨h⟩
theorem Zjs (h:B) (k:Zh B→A:=by intro zz;refine Qar (sz:=1) (bts:=16) hS (by conv=>lhs;whnf) rfl rfl rfl rfl (hrow) rfl rfl (List.Perm.cons _ (List.perm_append_comm_assoc [_,_] O [])) (by omega) (by omega) rfl ?_;exact zz.out):A:=k ⟨h⟩
theorem Zjt (h:B) (k:Zh B→A:=by intro zz;refine Qj rfl (fun _ hS=>Qhu rfl rfl (by first|omega|(simp;done)|(simp;omega))) rfl ?_;exact zz.out):A:=k ⟨h⟩
theorem Zju (h:B) (k:Zh B→A:=by intro zz;refine QcN (sz:=4) hS Tryz.func160 rfl rfl rfl rfl (by first|exact .head|exact .tail .head|exact .tail (.tail .head)|exact .tail (.tail (.tail .head))|exact .tail (.tail (.tail (.tail .head)))|exact .tail (.tail (.tail (.tail (.tail .head))))) (by repeat constructor) ?_;exact zz.out):A:=k ⟨h⟩
theorem Zjv (h:B) (k:Zh B→A:=by intro zz;(first|refine Qa (Qb (k:=4) hS rfl rfl rfl (by first|exact .head|exact .tail .head|exact .tail (.tail .head)|exact .tail (.tail (.tail .head))|exact .tail (.tail (.tail (.tail .head)))|exact .tail (.tail (.tail (.tail (.tail .head))))) (by repeat constructor)) rfl ?_|refine Qa (Qb (k:=4) hS rfl rfl rfl (by first|exact .head|exact .tail .head|exact .tail (.tail .head)|exact .tail (.tail (.tail .head))|exact .tail (.tail (.tail (.tail .head)))|exact .tail (.tail (.tail (.tail (.tail .head))))) (by assumption)) rfl ?_|refine Qa (Q7 rfl rfl rfl (by first|assumption|exact (hcc _ hS).1|exact (hcc _ hS).2.1|exact (hcc _ hS).2.2.1|exact (hcc _ hS).2.2.2.1|exact (hcc _ hS).2.2.2.2.1|exact (hcc _ hS).2.2.2.2.2|exact hS.cell0 (by assumption)) (by first|assumption|exact (hcc _ hS).1|exact (hcc _ hS).2.1|exact (hcc _ hS).2.2.1|exact (hcc _ hS).2.2.2.1|exact (hcc _ hS).2.2.2.2.1|exact (hcc _ hS).2.2.2.2.2|exact hS.cell0 (by assumption)) (by first|assumption|exact (hcc _ hS).1|exact (hcc _ hS).2.1|exact (hcc _ hS).2.2.1|exact (hcc _ hS).2.2.2.1|exact (hcc _ hS).2.2.2.2.1|exact (hcc _ hS).2.2.2.2.2|exact hS.cell0 (by assumption)) (by first|assumption|exact (hcc _ hS).1|exact (hcc _ hS).2.1|exact (hcc _ hS).2.2.1|exact (hcc _ hS).2.2.2.1|exact (hcc _ hS).2.2.2.2.1|exact (hcc _ hS).2.2.2.2.2|exact hS.cell0 (by assumption))) rfl ?_);exact zz.out):A:=k ⟨h⟩
theorem Zjw (h:B) (k:Zh B→A:=by intro zz;refine QaF (cells:=[_,_,_,_,_,_,_,_]) hS (.cons (by conv=>lhs;whnf) .nil) rfl rfl ?_;exact zz.out):A:=k ⟨h⟩
theorem Zjx (h:B) (k:Zh B→A:=by intro zz;(first|refine Qa (Qb (k:=8) hS rfl rfl rfl (by first|exact .head|exact .tail .head|exact .tail (.tail .head)|exact .tail (.tail (.tail .head))|exact .tail (.tail (.tail (.tail .head)))|exact .tail (.tail (.tail (.tail (.tail .head))))) (by repeat constructor)) rfl ?_|refine Qa (Qb (k:=8) hS rfl rfl rfl (by first|exact .head|exact .tail .head|exact .tail (.tail .head)|exact .tail (.tail (.tail .head))|exact .tail (.tail (.tail (.tail .head)))|exact .tail (.tail (.tail (.tail (.tail .head))))) (by assumption)) rfl ?_|refine Qa (run_load8 rfl rfl rfl (by first|assumption|exact hS.cell0 (by assumption)) (by first|assumption|exact hS.cell0 (by assumption)) (by first|assumption|exact hS.cell0 (by assumption)) (by first|assumption|exact hS.cell0 (by assumption)) (by first|assumption|exact hS.cell0 (by assumption)) (by first|assumption|exact hS.cell0 (by assumption)) (by first|assumption|exact hS.cell0 (by assumption)) (by first|assumption|exact hS.cell0 (by assumption))) rfl ?_);exact zz.out):A:=k ⟨h⟩
theorem Zjy (h:B) (k:Zh B→A:=by intro zz;(first|refine Qj rfl (fun _ ⟨_,hS⟩=>Qf hS rfl rfl (by first|exact .head|exact .tail .head|exact .tail (.tail .head)|exact .tail (.tail (.tail .head))|exact .tail (.tail (.tail (.tail .head)))|exact .tail (.tail (.tail (.tail (.tail .head))))) (by repeat constructor)) rfl ?_|refine Qj rfl (fun _ ⟨_,hS⟩=>Qm rfl rfl (by first|assumption|exact (hcc _ hS).1|exact (hcc _ hS).2.1|exact (hcc _ hS).2.2.1|exact (hcc _ hS).2.2.2|exact (hcd _ hS).1|exact (hcd _ hS).2.1|exact (hcd _ hS).2.2.1|exact (hcd _ hS).2.2.2|exact hS.cell0 (by assumption)|exact Qt hS|exact Qu hS)) rfl ?_);exact zz.out):A:=k ⟨h⟩
theorem Zjz (h:B) (k:Zh B→A:=by intro zz;refine Qj rfl (fun _ ⟨_,hS⟩=>Q0 (sz:=4) rfl rfl rfl rfl (by omega) (by omega)) rfl ?_;exact zz.out):A:=k ⟨h⟩
theorem ZjA (h:B) (k:Zh B→A:=by intro zz;(first|refine Qj rfl (fun _ ⟨_,hS⟩=>Qb (k:=4) hS rfl rfl rfl (by first|exact .head|exact .tail .head|exact .tail (.tail .head)|exact .tail (.tail (.tail .head))|exact .tail (.tail (.tail (.tail .head)))|exact .tail (.tail (.tail (.tail (.tail .head))))) (by repeat constructor)) rfl ?_|refine Qj rfl (fun _ ⟨_,hS⟩=>Qb (k:=4) hS rfl rfl rfl (by first|exact .head|exact .tail .head|exact .tail (.tail .head)|exact .tail (.tail (.tail .head))|exact .tail (.tail (.tail (.tail .head)))|exact .tail (.tail (.tail (.tail (.tail .head))))) (by assumption)) rfl ?_|refine Qj rfl (fun _ ⟨_,hS⟩=>Q7 rfl rfl rfl (by first|assumption|exact (hcc _ hS).1|exact (hcc _ hS).2.1|exact (hcc _ hS).2.2.1|exact (hcc _ hS).2.2.2|exact (hcd _ hS).1|exact (hcd _ hS).2.1|exact (hcd _ hS).2.2.1|exact (hcd _ hS).2.2.2|exact hS.cell0 (by assumption)) (by first|assumption|exact (hcc _ hS).1|exact (hcc _ hS).2.1|exact (hcc _ hS).2.2.1|exact (hcc _ hS).2.2.2|exact (hcd _ hS).1|exact (hcd _ hS).2.1|exact (hcd _ hS).2.2.1|exact (hcd _ hS).2.2.2|exact hS.cell0 (by assumption)) (by first|assumption|exact (hcc _ hS).1|exact (hcc _ hS).2.1|exact (hcc _ hS).2.2.1|exact (hcc _ hS).2.2.2|exact (hcd _ hS).1|exact (hcd _ hS).2.1|exact (hcd _ hS).2.2.1|exact (hcd _ hS).2.2.2|exact hS.cell0 (by assumption)) (by first|assumption|exact (hcc _ hS).1|exact (hcc _ hS).2.1|exact (hcc _ hS).2.2.1|exact (hcc _ hS).2.2.2|exact (hcd _ hS).1|exact (hcd _ hS).2.1|exact (hcd _ hS).2.2.1|exact (hcd _ hS).2.2.2|exact hS.cell0 (by assumption))) rfl ?_);exact zz.out):A:=k ⟨h⟩
theorem ZjB (h:B) (k:Zh B→A:=by intro zz;refine QcN (sz:=4) hS Tryz.func158 rfl rfl rfl rfl (by first|exact .head|exact .tail .head|exact .tail (.tail .head)|exact .tail (.tail (.tail .head))|exact .tail (.tail (.tail (.tail .head)))|exact .tail (.tail (.tail (.tail (.tail .head))))) (by repeat constructor) ?_;exact zz.out):A:=k ⟨h⟩
theorem ZjC (h:B) (k:Zh B→A:=by intro zz;refine QaS (St _ _ _ _) 15 (.read 0 (.read 1 (.read 2 (.read 3 (.read 4 (.read 5 (.read 6 (.pick 7 (.read 8 (.read 9 (.read 10 (.read 11 (.read 12 (.read 13 (.read 14 .tail))))))) .none)))))))) (by kernel_rfl) (by kernel_rfl) hS.drew ?_;exact zz.out):A:=k ⟨h⟩
theorem ZjD (h:B) (k:Zh B→A:=by intro zz;refine QcT (by first|exact hS|exact hS.drop|exact hS.drop.drop|exact hS.drop.drop.drop|exact hS.unlearn|exact hS.unlearn.drop|exact hS.unlearn.drop.drop|exact hS.forget hF9) ?_;exact zz.out):A:=k ⟨h⟩
theorem ZjE (h:B) (k:Zh B→A:=by intro zz;refine QaS (St _ _ _ _) 12 (.read 0 (.read 1 (.read 2 (.read 3 (.read 5 (.read 6 (.read 7 (.read 8 (.pick 4 (.pick 9 (.pick 10 (.pick 11 .tail .none) (.pick 11 (.pick 10 .tail .none) .none)) (.pick 10 (.pick 9 (.pick 11 .tail .none) (.pick 11 (.pick 9 .tail .none) .none)) (.pick 11 (.pick 9 (.pick 10 .tail .none) (.pick 10 (.pick 9 .tail .none) .none)) .none))) (.pick 10 (.pick 4 (.pick 9 (.pick 11 .tail .none) (.pick 11 (.pick 9 .tail .none) .none)) (.pick 11 (.pick 4 (.pick 9 .tail .none) .none) .none)) (.pick 11 (.pick 4 (.pick 9 (.pick 10 .tail .none) (.pick 10 (.pick 9 .tail .none) .none)) (.pick 10 (.pick 4 (.pick 9 .tail .none) .none) .none)) .none))))))))))) (by kernel_rfl) (by kernel_rfl) hS.drew ?_;exact zz.out):A:=k ⟨h⟩
theorem ZjF (h:B) (k:Zh B→A:=by intro zz;(first|refine Qe rfl (fun _ hS=>Qf hS rfl rfl (by first|exact .head|exact .tail .head|exact .tail (.tail .head)|exact .tail (.tail (.tail .head))|exact .tail (.tail (.tail (.tail .head)))|exact .tail (.tail (.tail (.tail (.tail .head))))) (by repeat constructor)) rfl ?_|refine Qe rfl (fun _ hS=>Qm rfl rfl (by first|assumption|exact (hpc hF0 _ hS).1|exact (hpc hF0 _ hS).2.1|exact (hpc hF0 _ hS).2.2.1|exact (hpc hF0 _ hS).2.2.2.1|exact (hpc hF0 _ hS).2.2.2.2.1|exact (hpc hF0 _ hS).2.2.2.2.2|exact (hcC _ hS).1|exact (hcC _ hS).2.1|exact (hcC _ hS).2.2.1|exact (hcC _ hS).2.2.2|exact hS.cell0 (by assumption)|exact Qt hS|exact Qu hS)) rfl ?_);exact zz.out):A:=k ⟨h⟩
theorem ZjG (h:B) (k:Zh B→A:=by intro zz;refine Qe rfl (fun _ hS=>QD (cells:=[_,_,_,_]) (.cons (by conv=>lhs;whnf) (.cons (by conv=>lhs;whnf) .nil)) rfl) rfl ?_;exact zz.out):A:=k ⟨h⟩
theorem ZjH (h:B) (k:Zh B→A:=by intro zz;(first|refine Qj rfl (fun _ hS=>Qb (k:=4) hS rfl rfl rfl (by first|exact .head|exact .tail .head|exact .tail (.tail .head)|exact .tail (.tail (.tail .head))|exact .tail (.tail (.tail (.tail .head)))|exact .tail (.tail (.tail (.tail (.tail .head))))) (by repeat constructor)) rfl ?_|refine Qj rfl (fun _ hS=>Qb (k:=4) hS rfl rfl rfl (by first|exact .head|exact .tail .head|exact .tail (.tail .head)|exact .tail (.tail (.tail .head))|exact .tail (.tail (.tail (.tail .head)))|exact .tail (.tail (.tail (.tail (.tail .head))))) (by assumption)) rfl ?_|refine Qj rfl (fun _ hS=>Q7 rfl rfl rfl (by first|assumption|exact (hpc hF0 _ hS).1|exact (hpc hF0 _ hS).2.1|exact (hpc hF0 _ hS).2.2.1|exact (hpc hF0 _ hS).2.2.2.1|exact (hpc hF0 _ hS).2.2.2.2.1|exact (hpc hF0 _ hS).2.2.2.2.2|exact (hcC _ hS).1|exact (hcC _ hS).2.1|exact (hcC _ hS).2.2.1|exact (hcC _ hS).2.2.2|exact hS.cell0 (by assumption)) (by first|assumption|exact (hpc hF0 _ hS).1|exact (hpc hF0 _ hS).2.1|exact (hpc hF0 _ hS).2.2.1|exact (hpc hF0 _ hS).2.2.2.1|exact (hpc hF0 _ hS).2.2.2.2.1|exact (hpc hF0 _ hS).2.2.2.2.2|exact (hcC _ hS).1|exact (hcC _ hS).2.1|exact (hcC _ hS).2.2.1|exact (hcC _ hS).2.2.2|exact hS.cell0 (by assumption)) (by first|assumption|exact (hpc hF0 _ hS).1|exact (hpc hF0 _ hS).2.1|exact (hpc hF0 _ hS).2.2.1|exact (hpc hF0 _ hS).2.2.2.1|exact (hpc hF0 _ hS).2.2.2.2.1|exact (hpc hF0 _ hS).2.2.2.2.2|exact (hcC _ hS).1|exact (hcC _ hS).2.1|exact (hcC _ hS).2.2.1|exact (hcC _ hS).2.2.2|exact hS.cell0 (by assumption)) (by first|assumption|exact (hpc hF0 _ hS).1|exact (hpc hF0 _ hS).2.1|exact (hpc hF0 _ hS).2.2.1|exact (hpc hF0 _ hS).2.2.2.1|exact (hpc hF0 _ hS).2.2.2.2.1|exact (hpc hF0 _ hS).2.2.2.2.2|exact (hcC _ hS).1|exact (hcC _ hS).2.1|exact (hcC _ hS).2.2.1|exact (hcC _ hS).2.2.2|exact hS.cell0 (by assumption))) rfl ?_);exact zz.out):A:=k ⟨h⟩
theorem ZjI (h:B) (k:Zh B→A:=by intro zz;(first|refine Qj rfl (fun _ hS=>Qb (k:=4) hS rfl rfl rfl (by first|exact .head|exact .tail .head|exact .tail (.tail .head)|exact .tail (.tail (.tail .head))|exact .tail (.tail (.tail (.tail .head)))|exact .tail (.tail (.tail (.tail (.tail .head))))) (by repeat constructor)) rfl ?_|refine Qj rfl (fun _ hS=>Qb (k:=4) hS rfl rfl rfl (by first|exact .head|exact .tail .head|exact .tail (.tail .head)|exact .tail (.tail (.tail .head))|exact .tail (.tail (.tail (.tail .head)))|exact .tail (.tail (.tail (.tail (.tail .head))))) (by assumption)) rfl ?_|refine Qj rfl (fun _ hS=>Q7 rfl rfl rfl (by first|assumption|exact (hpc1 hFF _ hS).1|exact (hpc1 hFF _ hS).2.1|exact (hpc1 hFF _ hS).2.2.1|exact (hpc1 hFF _ hS).2.2.2.1|exact (hpc1 hFF _ hS).2.2.2.2.1|exact (hpc1 hFF _ hS).2.2.2.2.2|exact (hpc1 hFF _ hS.unlearn).1|exact (hpc1 hFF _ hS.unlearn).2.1|exact (hpc1 hFF _ hS.unlearn).2.2.1|exact (hpc1 hFF _ hS.unlearn).2.2.2.1|exact (hpc1 hFF _ hS.unlearn).2.2.2.2.1|exact (hpc1 hFF _ hS.unlearn).2.2.2.2.2|exact hS.cell0 (by assumption)) (by first|assumption|exact (hpc1 hFF _ hS).1|exact (hpc1 hFF _ hS).2.1|exact (hpc1 hFF _ hS).2.2.1|exact (hpc1 hFF _ hS).2.2.2.1|exact (hpc1 hFF _ hS).2.2.2.2.1|exact (hpc1 hFF _ hS).2.2.2.2.2|exact (hpc1 hFF _ hS.unlearn).1|exact (hpc1 hFF _ hS.unlearn).2.1|exact (hpc1 hFF _ hS.unlearn).2.2.1|exact (hpc1 hFF _ hS.unlearn).2.2.2.1|exact (hpc1 hFF _ hS.unlearn).2.2.2.2.1|exact (hpc1 hFF _ hS.unlearn).2.2.2.2.2|exact hS.cell0 (by assumption)) (by first|assumption|exact (hpc1 hFF _ hS).1|exact (hpc1 hFF _ hS).2.1|exact (hpc1 hFF _ hS).2.2.1|exact (hpc1 hFF _ hS).2.2.2.1|exact (hpc1 hFF _ hS).2.2.2.2.1|exact (hpc1 hFF _ hS).2.2.2.2.2|exact (hpc1 hFF _ hS.unlearn).1|exact (hpc1 hFF _ hS.unlearn).2.1|exact (hpc1 hFF _ hS.unlearn).2.2.1|exact (hpc1 hFF _ hS.unlearn).2.2.2.1|exact (hpc1 hFF _ hS.unlearn).2.2.2.2.1|exact (hpc1 hFF _ hS.unlearn).2.2.2.2.2|exact hS.cell0 (by assumption)) (by first|assumption|exact (hpc1 hFF _ hS).1|exact (hpc1 hFF _ hS).2.1|exact (hpc1 hFF _ hS).2.2.1|exact (hpc1 hFF _ hS).2.2.2.1|exact (hpc1 hFF _ hS).2.2.2.2.1|exact (hpc1 hFF _ hS).2.2.2.2.2|exact (hpc1 hFF _ hS.unlearn).1|exact (hpc1 hFF _ hS.unlearn).2.1|exact (hpc1 hFF _ hS.unlearn).2.2.1|exact (hpc1 hFF _ hS.unlearn).2.2.2.1|exact (hpc1 hFF _ hS.unlearn).2.2.2.2.1|exact (hpc1 hFF _ hS.unlearn).2.2.2.2.2|exact hS.cell0 (by assumption))) rfl ?_);exact zz.out):A:=k ⟨h⟩
theorem ZjJ (h:B) (k:Zh B→A:=by intro zz;refine QcT (by first|exact hS|exact hS.drop|exact hS.drop.drop|exact hS.drop.drop.drop|exact hS.unlearn|exact hS.unlearn.drop|exact hS.unlearn.drop.drop|exact hS.forget (fun φ h=>hF9 φ (.tail _ h))) ?_;exact zz.out):A:=k ⟨h⟩
theorem ZjK (h:B) (k:Zh B→A:=by intro zz;(first|refine Qe rfl (fun _ hS=>Qf hS rfl rfl (by first|exact .head|exact .tail .head|exact .tail (.tail .head)|exact .tail (.tail (.tail .head))|exact .tail (.tail (.tail (.tail .head)))|exact .tail (.tail (.tail (.tail (.tail .head))))) (by repeat constructor)) rfl ?_|refine Qe rfl (fun _ hS=>Qm rfl rfl (by first|assumption|exact (hpc1 hFF2 _ hS).1|exact (hpc1 hFF2 _ hS).2.1|exact (hpc1 hFF2 _ hS).2.2.1|exact (hpc1 hFF2 _ hS).2.2.2.1|exact (hpc1 hFF2 _ hS).2.2.2.2.1|exact (hpc1 hFF2 _ hS).2.2.2.2.2|exact hS.cell0 (by assumption)|exact Qt hS|exact Qu hS)) rfl ?_);exact zz.out):A:=k ⟨h⟩
theorem ZjL (h:B) (k:Zh B→A:=by intro zz;(first|refine Qa (Qb (k:=2) hS rfl rfl rfl (by first|exact .head|exact .tail .head|exact .tail (.tail .head)|exact .tail (.tail (.tail .head))|exact .tail (.tail (.tail (.tail .head)))|exact .tail (.tail (.tail (.tail (.tail .head))))) (by repeat constructor)) rfl ?_|refine Qa (Qb (k:=2) hS rfl rfl rfl (by first|exact .head|exact .tail .head|exact .tail (.tail .head)|exact .tail (.tail (.tail .head))|exact .tail (.tail (.tail (.tail .head)))|exact .tail (.tail (.tail (.tail (.tail .head))))) (by assumption)) rfl ?_|refine Qa (Qbn rfl rfl rfl (by first|assumption|exact hpa _ hS|exact hS.cell0 (by assumption)) (by first|assumption|exact hpa _ hS|exact hS.cell0 (by assumption))) rfl ?_);exact zz.out):A:=k ⟨h⟩
theorem ZjM (h:B) (k:Zh B→A:=by intro zz;(first|refine Qa (Qb (k:=3) hS rfl rfl rfl (by first|exact .head|exact .tail .head|exact .tail (.tail .head)|exact .tail (.tail (.tail .head))|exact .tail (.tail (.tail (.tail .head)))|exact .tail (.tail (.tail (.tail (.tail .head))))) (by repeat constructor)) rfl ?_|refine Qa (Qb (k:=3) hS rfl rfl rfl (by first|exact .head|exact .tail .head|exact .tail (.tail .head)|exact .tail (.tail (.tail .head))|exact .tail (.tail (.tail (.tail .head)))|exact .tail (.tail (.tail (.tail (.tail .head))))) (by assumption)) rfl ?_|refine Qa (QbB rfl rfl rfl (by first|assumption|exact hwl _ hS|exact (hcc _ hS).1|exact (hcc _ hS).2.1|exact (hcc _ hS).2.2|exact hS.cell0 (by assumption)) (by first|assumption|exact hwl _ hS|exact (hcc _ hS).1|exact (hcc _ hS).2.1|exact (hcc _ hS).2.2|exact hS.cell0 (by assumption)) (by first|assumption|exact hwl _ hS|exact (hcc _ hS).1|exact (hcc _ hS).2.1|exact (hcc _ hS).2.2|exact hS.cell0 (by assumption))) rfl ?_);exact zz.out):A:=k ⟨h⟩
theorem ZjN (h:B) (k:Zh B→A:=by intro zz;refine Qay hS rfl (by conv=>lhs;whnf) rfl rfl .head (by rw [hi1,Nat.zero_add,Nat.mul_one];exact hput) .head ?_;exact zz.out):A:=k ⟨h⟩
theorem ZjO (h:B) (k:Zh B→A:=by intro zz;(first|refine Qa (Qf hS rfl rfl (by first|exact .head|exact .tail .head|exact .tail (.tail .head)|exact .tail (.tail (.tail .head))|exact .tail (.tail (.tail (.tail .head)))|exact .tail (.tail (.tail (.tail (.tail .head))))) (by repeat constructor)) rfl ?_|refine Qa (Qm rfl rfl (by first|assumption|exact hct _ hS|exact hcs _ hS|exact hS.cell0 (by assumption)|exact Qt hS|exact Qu hS)) rfl ?_);exact zz.out):A:=k ⟨h⟩
theorem ZjP (h:B) (k:Zh B→A:=by intro zz;(first|refine Qa (Qf hS rfl rfl (by first|exact .head|exact .tail .head|exact .tail (.tail .head)|exact .tail (.tail (.tail .head))|exact .tail (.tail (.tail (.tail .head)))|exact .tail (.tail (.tail (.tail (.tail .head))))) (by repeat constructor)) rfl ?_|refine Qa (Qm rfl rfl (by first|assumption|exact hct _ hS|exact hcm _ hS|exact hS.cell0 (by assumption)|exact Qt hS|exact Qu hS)) rfl ?_);exact zz.out):A:=k ⟨h⟩
theorem ZjQ (h:B) (k:Zh B→A:=by intro zz;(first|refine Qj rfl (fun _ hS=>Qf hS rfl rfl (by first|exact .head|exact .tail .head|exact .tail (.tail .head)|exact .tail (.tail (.tail .head))|exact .tail (.tail (.tail (.tail .head)))|exact .tail (.tail (.tail (.tail (.tail .head))))) (by repeat constructor)) rfl ?_|refine Qj rfl (fun _ hS=>Qm rfl rfl (by first|assumption|exact hct _ hS|exact hcm _ hS|exact hS.cell0 (by assumption)|exact Qt hS|exact Qu hS)) rfl ?_);exact zz.out):A:=k ⟨h⟩
theorem ZjR (h:B) (k:Zh B→A:=by intro zz;refine Calls.mono (QmD h.cs Mk A A2 A6 c c2 c6 _ (hCs.mono hF27) (hM2.mono hF27) hS6' hgl hl1 hml hS) ?_;exact zz.out):A:=k ⟨h⟩
theorem ZjS (h:B) (k:Zh B→A:=by intro zz;refine Qa (QD (cells:=[_,_]) (.cons (by conv=>lhs;whnf) (.cons (by conv=>lhs;whnf) .nil)) rfl) rfl ?_;exact zz.out):A:=k ⟨h⟩
theorem ZjT (h:B) (k:Zh B→A:=by intro zz;(first|refine Qj rfl (fun _ hS=>Qf hS rfl rfl (by first|exact .head|exact .tail .head|exact .tail (.tail .head)|exact .tail (.tail (.tail .head))|exact .tail (.tail (.tail (.tail .head)))|exact .tail (.tail (.tail (.tail (.tail .head))))) (by repeat constructor)) rfl ?_|refine Qj rfl (fun _ hS=>Qm rfl rfl (by first|assumption|exact hct _ hS|exact hS.cell0 (by assumption)|exact Qt hS|exact Qu hS)) rfl ?_);exact zz.out):A:=k ⟨h⟩
theorem ZjU (h:B) (k:Zh B→A:=by intro zz;refine Qay hS rfl (by conv=>lhs;whnf) rfl rfl (.tail .head) (by rw [Nat.zero_add];exact hput) (.tail .head) ?_;exact zz.out):A:=k ⟨h⟩
theorem ZjV (h:B) (k:Zh B→A:=by intro zz;(first|refine Qe rfl (fun _ hS=>Qf hS rfl rfl (by first|exact .head|exact .tail .head|exact .tail (.tail .head)|exact .tail (.tail (.tail .head))|exact .tail (.tail (.tail (.tail .head)))|exact .tail (.tail (.tail (.tail (.tail .head))))) (by repeat constructor)) rfl ?_|refine Qe rfl (fun _ hS=>Qm rfl rfl (by first|assumption|exact (hcx _ hS).1|exact (hcx _ hS).2.1|exact (hcx _ hS).2.2|exact (hcy _ hS).1|exact (hcy _ hS).2.1|exact (hcy _ hS).2.2|exact hS.cell0 (by assumption)|exact Qt hS|exact Qu hS)) rfl ?_);exact zz.out):A:=k ⟨h⟩
theorem ZjW (h:B) (k:Zh B→A:=by intro zz;(first|refine Qe rfl (fun _ hS=>Qb (k:=3) hS rfl rfl rfl (by first|exact .head|exact .tail .head|exact .tail (.tail .head)|exact .tail (.tail (.tail .head))|exact .tail (.tail (.tail (.tail .head)))|exact .tail (.tail (.tail (.tail (.tail .head))))) (by repeat constructor)) rfl ?_|refine Qe rfl (fun _ hS=>Qb (k:=3) hS rfl rfl rfl (by first|exact .head|exact .tail .head|exact .tail (.tail .head)|exact .tail (.tail (.tail .head))|exact .tail (.tail (.tail (.tail .head)))|exact .tail (.tail (.tail (.tail (.tail .head))))) (by assumption)) rfl ?_|refine Qe rfl (fun _ hS=>QbB rfl rfl rfl (by first|assumption|exact (hcx _ hS).1|exact (hcx _ hS).2.1|exact (hcx _ hS).2.2|exact (hcy _ hS).1|exact (hcy _ hS).2.1|exact (hcy _ hS).2.2|exact hS.cell0 (by assumption)) (by first|assumption|exact (hcx _ hS).1|exact (hcx _ hS).2.1|exact (hcx _ hS).2.2|exact (hcy _ hS).1|exact (hcy _ hS).2.1|exact (hcy _ hS).2.2|exact hS.cell0 (by assumption)) (by first|assumption|exact (hcx _ hS).1|exact (hcx _ hS).2.1|exact (hcx _ hS).2.2|exact (hcy _ hS).1|exact (hcy _ hS).2.1|exact (hcy _ hS).2.2|exact hS.cell0 (by assumption))) rfl ?_);exact zz.out):A:=k ⟨h⟩
theorem ZjX (h:B) (k:Zh B→A:=by intro zz;(first|refine Qa (Qf hS rfl rfl (by first|exact .head|exact .tail .head|exact .tail (.tail .head)|exact .tail (.tail (.tail .head))|exact .tail (.tail (.tail (.tail .head)))|exact .tail (.tail (.tail (.tail (.tail .head))))) (by repeat constructor)) rfl ?_|refine Qa (Qm rfl rfl (by first|assumption|exact (hcx _ hS).1|exact (hcx _ hS).2.1|exact (hcx _ hS).2.2|exact (hcy _ hS).1|exact (hcy _ hS).2.1|exact (hcy _ hS).2.2|exact hS.cell0 (by assumption)|exact Qt hS|exact Qu hS)) rfl ?_);exact zz.out):A:=k ⟨h⟩
theorem ZjY (h:B) (k:Zh B→A:=by intro zz;refine Calls.mono (hcall _ (hL.mono hFF') hg hl hadr hP' (by omega) (by omega) (by omega) (by omega) (by omega) (hS.perm (List.perm_append_comm_assoc [_,_,_] [_,_] _))) ?_;exact zz.out):A:=k ⟨h⟩
theorem ZjZ (h:B) (k:Zh B→A:=by intro zz;refine Qfy hS rfl (by conv=>lhs;whnf) rfl rfl (.tail .head) (QiH (Qh2 D') [r0,r1,r2,r3] (tcs u2) rs _ (by omega) rfl) (.tail .head) ?_;exact zz.out):A:=k ⟨h⟩
theorem Zj0 (h:B) (k:Zh B→A:=by intro zz;(first|refine Qe rfl (fun _ hS=>Qf hS rfl rfl (by first|exact .head|exact .tail .head|exact .tail (.tail .head)|exact .tail (.tail (.tail .head))|exact .tail (.tail (.tail (.tail .head)))|exact .tail (.tail (.tail (.tail (.tail .head))))) (by repeat constructor)) rfl ?_|refine Qe rfl (fun _ hS=>Qm rfl rfl (by first|assumption|exact (hcc _ hS).1|exact (hcc _ hS).2.1|exact (hcc _ hS).2.2|exact hS.cell0 (by assumption)|exact Qt hS|exact Qu hS)) rfl ?_);exact zz.out):A:=k ⟨h⟩
theorem Zj1 (h:B) (k:Zh B→A:=by intro zz;refine Calls.mono (hcall _ hL hgl hl1 ha hP (by omega) (by omega) (by omega) (by omega) (by omega) hS) ?_;exact zz.out):A:=k ⟨h⟩
theorem Zj2 (h:B) (k:Zh B→A:=by intro zz;refine Qfy hS rfl (by rfl) rfl rfl (.tail (.tail .head)) (by rw [Nat.zero_add];exact hput _) (.tail (.tail .head)) ?_;exact zz.out):A:=k ⟨h⟩
theorem Zj3 (h:B) (k:Zh B→A:=by intro zz;refine Qa (QD (cells:=[_,_,_,_]) (.cons (by conv=>lhs;whnf) (.cons (by conv=>lhs;whnf) (.cons (by conv=>lhs;whnf) (.cons (by conv=>lhs;whnf) .nil)))) rfl) rfl ?_;exact zz.out):A:=k ⟨h⟩
theorem Zj4 (h:B) (k:Zh B→A:=by intro zz;refine QH (St _ _ _ _) 8 ((0,true)::(1,true)::(2,true)::(3,true)::(4,true)::(5,true)::(6,true)::(7,true)::[]) (by kernel_rfl) (by kernel_rfl) (hS.drew) ?_;exact zz.out):A:=k ⟨h⟩
theorem Zj5 (h:B) (k:Zh B→A:=by intro zz;(first|refine Qe rfl (fun _ hS=>QkE rfl rfl (by assumption)) rfl ?_|refine Qe rfl (fun _ hS=>QkF rfl rfl (by assumption)) rfl ?_);exact zz.out):A:=k ⟨h⟩
theorem Zj6 (h:B) (k:Zh B→A:=by intro zz;(first|refine Qa (Qb (k:=4) hS rfl rfl rfl (by first|exact .head|exact .tail .head|exact .tail (.tail .head)|exact .tail (.tail (.tail .head))|exact .tail (.tail (.tail (.tail .head)))|exact .tail (.tail (.tail (.tail (.tail .head))))) (by repeat constructor)) rfl ?_|refine Qa (Qb (k:=4) hS rfl rfl rfl (by first|exact .head|exact .tail .head|exact .tail (.tail .head)|exact .tail (.tail (.tail .head))|exact .tail (.tail (.tail (.tail .head)))|exact .tail (.tail (.tail (.tail (.tail .head))))) (by assumption)) rfl ?_|refine Qa (Q7 rfl rfl rfl (by first|assumption|exact (hcell _ hS).1|exact (hcell _ hS).2.1|exact (hcell _ hS).2.2|exact hS.cell0 (by assumption)) (by first|assumption|exact (hcell _ hS).1|exact (hcell _ hS).2.1|exact (hcell _ hS).2.2|exact hS.cell0 (by assumption)) (by first|assumption|exact (hcell _ hS).1|exact (hcell _ hS).2.1|exact (hcell _ hS).2.2|exact hS.cell0 (by assumption)) (by first|assumption|exact (hcell _ hS).1|exact (hcell _ hS).2.1|exact (hcell _ hS).2.2|exact hS.cell0 (by assumption))) rfl ?_);exact zz.out):A:=k ⟨h⟩
theorem Zj7 (h:B) (k:Zh B→A:=by intro zz;(first|refine Qe rfl (fun _ hS=>Qf hS rfl rfl (by first|exact .head|exact .tail .head|exact .tail (.tail .head)|exact .tail (.tail (.tail .head))|exact .tail (.tail (.tail (.tail .head)))|exact .tail (.tail (.tail (.tail (.tail .head))))) (by repeat constructor)) rfl ?_|refine Qe rfl (fun _ hS=>Qm rfl rfl (by first|assumption|exact hgc _ hS|exact hS.cell0 (by assumption)|exact Qt hS|exact Qu hS)) rfl ?_);exact zz.out):A:=k ⟨h⟩
theorem Zj8 (h:B) (k:Zh B→A:=by intro zz;refine Calls.mono (Qrc x.h (QB y.cl) hA hB y.A hc hd y.c _ hok'.hh (hfl.imp fun w h=>h.1) hS) ?_;exact zz.out):A:=k ⟨h⟩
theorem Zj9 (h:B) (k:Zh B→A:=by intro zz;(first|refine Qa (Qb (k:=2) hS rfl rfl rfl (by first|exact .head|exact .tail .head|exact .tail (.tail .head)|exact .tail (.tail (.tail .head))|exact .tail (.tail (.tail (.tail .head)))|exact .tail (.tail (.tail (.tail (.tail .head))))) (by repeat constructor)) rfl ?_|refine Qa (Qb (k:=2) hS rfl rfl rfl (by first|exact .head|exact .tail .head|exact .tail (.tail .head)|exact .tail (.tail (.tail .head))|exact .tail (.tail (.tail (.tail .head)))|exact .tail (.tail (.tail (.tail (.tail .head))))) (by assumption)) rfl ?_|refine Qa (Qbn rfl rfl rfl (by first|assumption|exact (hll _ hS (by repeat constructor)).1|exact (hll _ hS (by repeat constructor)).2.1|exact (hll _ hS (by repeat constructor)).2.2|exact hS.cell0 (by assumption)) (by first|assumption|exact (hll _ hS (by repeat constructor)).1|exact (hll _ hS (by repeat constructor)).2.1|exact (hll _ hS (by repeat constructor)).2.2|exact hS.cell0 (by assumption))) rfl ?_);exact zz.out):A:=k ⟨h⟩
theorem Zka (h:B) (k:Zh B→A:=by intro zz;(first|refine Qa (Qe0 (sz:=4) rfl rfl rfl rfl (by omega) (by omega) (by omega)) rfl ?_|refine Qa (Qcs (sz:=4) rfl rfl rfl rfl (by omega) (by omega)) rfl ?_);exact zz.out):A:=k ⟨h⟩
theorem Zkb (h:B) (k:Zh B→A:=by intro zz;refine QH (St _ w0 [_,_] []) 10 ((0,true)::(1,true)::(2,true)::(3,true)::(4,true)::(5,true)::(6,false)::(7,false)::(8,true)::(9,true)::[]) (by kernel_rfl) (by kernel_rfl) (hS.drew.bare2) ?_;exact zz.out):A:=k ⟨h⟩
theorem Zkc (h:B) (k:Zh B→A:=by intro zz;refine Calls.mono (Qoa x a _ ha ⟨_,hl.choose_spec.1⟩ ⟨_,hl1.choose_spec.1⟩ hlen ⟨_,F,hFF,hok,hS⟩) ?_;exact zz.out):A:=k ⟨h⟩
theorem Zkd (h:B) (k:Zh B→A:=by intro zz;(first|refine Qa (Qf hS rfl rfl (by first|exact .head|exact .tail .head|exact .tail (.tail .head)|exact .tail (.tail (.tail .head))|exact .tail (.tail (.tail (.tail .head)))|exact .tail (.tail (.tail (.tail (.tail .head))))) (by repeat constructor)) rfl ?_|refine Qa (Qm rfl rfl (by first|assumption|exact hsv _ hS (.tail _ (.head _))|exact hS.cell0 (by assumption)|exact Qt hS|exact Qu hS)) rfl ?_);exact zz.out):A:=k ⟨h⟩
theorem Zke (h:B) (k:Zh B→A:=by intro zz;(first|refine Q3 rfl rfl rfl (fun _ hS=>QnD rfl rfl) rfl ?_|refine Q3 rfl rfl rfl (fun _ hS=>QqQ rfl rfl (by omega) (by omega) (by omega)) rfl ?_|refine Q3 rfl rfl rfl (fun _ hS=>QqR rfl rfl (by omega) (by omega)) rfl ?_);exact zz.out):A:=k ⟨h⟩
theorem Zkf (h:B) (k:Zh B→A:=by intro zz;(first|refine Qa (Qb (k:=3) hS rfl rfl rfl (by first|exact .head|exact .tail .head|exact .tail (.tail .head)|exact .tail (.tail (.tail .head))|exact .tail (.tail (.tail (.tail .head)))|exact .tail (.tail (.tail (.tail (.tail .head))))) (by repeat constructor)) rfl ?_|refine Qa (Qb (k:=3) hS rfl rfl rfl (by first|exact .head|exact .tail .head|exact .tail (.tail .head)|exact .tail (.tail (.tail .head))|exact .tail (.tail (.tail (.tail .head)))|exact .tail (.tail (.tail (.tail (.tail .head))))) (by assumption)) rfl ?_|refine Qa (QbB rfl rfl rfl (by first|assumption|exact (hcell _ hS).1|exact (hcell _ hS).2.1|exact (hcell _ hS).2.2|exact (hll _ hS (by simp)).1|exact (hll _ hS (by simp)).2.1|exact (hll _ hS (by simp)).2.2|exact hS.cell0 (by assumption)) (by first|assumption|exact (hcell _ hS).1|exact (hcell _ hS).2.1|exact (hcell _ hS).2.2|exact (hll _ hS (by simp)).1|exact (hll _ hS (by simp)).2.1|exact (hll _ hS (by simp)).2.2|exact hS.cell0 (by assumption)) (by first|assumption|exact (hcell _ hS).1|exact (hcell _ hS).2.1|exact (hcell _ hS).2.2|exact (hll _ hS (by simp)).1|exact (hll _ hS (by simp)).2.1|exact (hll _ hS (by simp)).2.2|exact hS.cell0 (by assumption))) rfl ?_);exact zz.out):A:=k ⟨h⟩
theorem Zkg (h:B) (k:Zh B→A:=by intro zz;(first|refine Qe rfl (fun _ hS=>Qf hS rfl rfl (by first|exact .head|exact .tail .head|exact .tail (.tail .head)|exact .tail (.tail (.tail .head))|exact .tail (.tail (.tail (.tail .head)))|exact .tail (.tail (.tail (.tail (.tail .head))))) (by repeat constructor)) rfl ?_|refine Qe rfl (fun _ hS=>Qm rfl rfl (by first|assumption|exact (hcell _ hS).1|exact (hcell _ hS).2.1|exact (hcell _ hS).2.2|exact (hll _ hS (by simp)).1|exact (hll _ hS (by simp)).2.1|exact (hll _ hS (by simp)).2.2|exact hS.cell0 (by assumption)|exact Qt hS|exact Qu hS)) rfl ?_);exact zz.out):A:=k ⟨h⟩
theorem Zkh (h:B) (k:Zh B→A:=by intro zz;refine Qar (sz:=1) (bts:=8) hS (by conv=>lhs;whnf) rfl rfl rfl rfl (hrow) rfl rfl (.cons _ (List.perm_append_comm_assoc [_] O _)) (by omega) (by omega) rfl ?_;exact zz.out):A:=k ⟨h⟩
theorem Zki (h:B) (k:Zh B→A:=by intro zz;(first|refine Qa (Qf hS rfl rfl (by first|exact .head|exact .tail .head|exact .tail (.tail .head)|exact .tail (.tail (.tail .head))|exact .tail (.tail (.tail (.tail .head)))|exact .tail (.tail (.tail (.tail (.tail .head))))) (by repeat constructor)) rfl ?_|refine Qa (Qm rfl rfl (by first|assumption|exact hk _ hS|exact hg _ hS|exact hS.cell0 (by assumption)|exact Qt hS|exact Qu hS)) rfl ?_);exact zz.out):A:=k ⟨h⟩
theorem Zkj (h:B) (k:Zh B→A:=by intro zz;refine QH (St _ _ _ _) 11 ((0,true)::(1,true)::(2,true)::(3,true)::(4,true)::(5,true)::(6,true)::(7,true)::(8,true)::(9,true)::(10,true)::[]) (by kernel_rfl) (by kernel_rfl) (hS.drew) ?_;exact zz.out):A:=k ⟨h⟩
theorem Zkk (h:B) (k:Zh B→A:=by intro zz;refine Qa (QnG (len:=7) (el:=9) (sz:=1) rfl rfl rfl rfl (by omega) (by omega)) rfl ?_;exact zz.out):A:=k ⟨h⟩
theorem Zkl (h:B) (k:Zh B→A:=by intro zz;(first|refine Qe rfl (fun _ hS=>Qf hS rfl rfl (by first|exact .head|exact .tail .head|exact .tail (.tail .head)|exact .tail (.tail (.tail .head))|exact .tail (.tail (.tail (.tail .head)))|exact .tail (.tail (.tail (.tail (.tail .head))))) (by repeat constructor)) rfl ?_|refine Qe rfl (fun _ hS=>Qm rfl rfl (by first|assumption|exact hq1 _ hS|exact hq2 _ hS|exact hS.cell0 (by assumption)|exact Qt hS|exact Qu hS)) rfl ?_);exact zz.out):A:=k ⟨h⟩
theorem Zk (h:B) (k:Zh B→A:=by intro zz;refine Zp ?_;refine Zbe ?_;exact zz.out):A:=k ⟨h⟩
theorem Zd (h:B) (k:Zh B→A:=by intro zz;refine ZdT ?_;refine Zb ?_;exact zz.out):A:=k ⟨h⟩
theorem Zl (h:B) (k:Zh B→A:=by intro zz;refine Zk ?_;refine Zf ?_;exact zz.out):A:=k ⟨h⟩
theorem Z3 (h:B) (k:Zh B→A:=by intro zz;refine Zf ?_;refine Zm ?_;exact zz.out):A:=k ⟨h⟩
theorem ZF (h:B) (k:Zh B→A:=by intro zz;refine Zp ?_;refine Zl ?_;exact zz.out):A:=k ⟨h⟩
theorem Zd6 (h:B) (k:Zh B→A:=by intro zz;refine Zb ?_;refine Zcd ?_;exact zz.out):A:=k ⟨h⟩
theorem Zo (h:B) (k:Zh B→A:=by intro zz;refine Zd6 ?_;refine Zbn ?_;exact zz.out):A:=k ⟨h⟩
theorem Z4 (h:B) (k:Zh B→A:=by intro zz;refine ZaV ?_;refine ZaV ?_;exact zz.out):A:=k ⟨h⟩
theorem Zt (h:B) (k:Zh B→A:=by intro zz;refine Zb ?_;refine Z2 ?_;exact zz.out):A:=k ⟨h⟩
theorem Zg (h:B) (k:Zh B→A:=by intro zz;refine Zk ?_;refine Zd ?_;exact zz.out):A:=k ⟨h⟩
theorem Zn (h:B) (k:Zh B→A:=by intro zz;refine ZdT ?_;refine Zd ?_;exact zz.out):A:=k ⟨h⟩
theorem Zu (h:B) (k:Zh B→A:=by intro zz;refine Zl ?_;refine Zf ?_;exact zz.out):A:=k ⟨h⟩
theorem ZbV (h:B) (k:Zh B→A:=by intro zz;refine Zd ?_;refine Zcd ?_;exact zz.out):A:=k ⟨h⟩
theorem Z8 (h:B) (k:Zh B→A:=by intro zz;refine Zb ?_;refine Zp ?_;exact zz.out):A:=k ⟨h⟩
theorem Zci (h:B) (k:Zh B→A:=by intro zz;refine Zk ?_;refine Zar ?_;exact zz.out):A:=k ⟨h⟩
theorem ZN (h:B) (k:Zh B→A:=by intro zz;refine Z3 ?_;refine Z3 ?_;exact zz.out):A:=k ⟨h⟩
theorem Zai (h:B) (k:Zh B→A:=by intro zz;refine Zf ?_;refine Z4 ?_;exact zz.out):A:=k ⟨h⟩
theorem ZbW (h:B) (k:Zh B→A:=by intro zz;refine Zp ?_;refine Za9 ?_;exact zz.out):A:=k ⟨h⟩
theorem Zkm (h:B) (k:Zh B→A:=by intro zz;refine Zk ?_;refine Zs ?_;refine Z8 ?_;exact zz.out):A:=k ⟨h⟩
theorem Zkn (h:B) (k:Zh B→A:=by intro zz;refine Zf ?_;refine Zb ?_;exact zz.out):A:=k ⟨h⟩
theorem Zx (h:B) (k:Zh B→A:=by intro zz;refine Zbe ?_;refine Zf ?_;exact zz.out):A:=k ⟨h⟩
theorem Zaj (h:B) (k:Zh B→A:=by intro zz;refine ZF ?_;refine ZR ?_;exact zz.out):A:=k ⟨h⟩
theorem Zko (h:B) (k:Zh B→A:=by intro zz;refine Zk ?_;refine Zr ?_;exact zz.out):A:=k ⟨h⟩
theorem Z0 (h:B) (k:Zh B→A:=by intro zz;refine Zl ?_;refine ZR ?_;exact zz.out):A:=k ⟨h⟩
theorem Zi (h:B) (k:Zh B→A:=by intro zz;refine Zk ?_;refine ZaX ?_;exact zz.out):A:=k ⟨h⟩
theorem ZaF (h:B) (k:Zh B→A:=by intro zz;refine Zp ?_;refine Zci ?_;exact zz.out):A:=k ⟨h⟩
theorem Zav (h:B) (k:Zh B→A:=by intro zz;refine ZQ ?_;refine Zt ?_;exact zz.out):A:=k ⟨h⟩
theorem ZiR (h:B) (k:Zh B→A:=by intro zz;refine Zbn ?_;refine ZbW ?_;exact zz.out):A:=k ⟨h⟩
theorem Z5 (h:B) (k:Zh B→A:=by intro zz;refine Zd ?_;refine ZF ?_;exact zz.out):A:=k ⟨h⟩
theorem ZbE (h:B) (k:Zh B→A:=by intro zz;refine Zd ?_;refine Z2 ?_;exact zz.out):A:=k ⟨h⟩
theorem ZaP (h:B) (k:Zh B→A:=by intro zz;refine ZK ?_;refine Zbo ?_;exact zz.out):A:=k ⟨h⟩
theorem ZC (h:B) (k:Zh B→A:=by intro zz;refine ZQ ?_;refine Zo ?_;exact zz.out):A:=k ⟨h⟩
theorem Zcj (h:B) (k:Zh B→A:=by intro zz;refine Zko ?_;refine ZbV ?_;exact zz.out):A:=k ⟨h⟩
theorem ZH (h:B) (k:Zh B→A:=by intro zz;refine Zm ?_;refine Z3 ?_;exact zz.out):A:=k ⟨h⟩
theorem Zg1 (h:B) (k:Zh B→A:=by intro zz;refine Zbe ?_;refine Zv ?_;refine Zkn ?_;exact zz.out):A:=k ⟨h⟩
theorem Zh0 (h:B) (k:Zh B→A:=by intro zz;refine Zkm ?_;refine Z2 ?_;refine ZiR ?_;exact zz.out):A:=k ⟨h⟩
theorem Zg2 (h:B) (k:Zh B→A:=by intro zz;refine Zcd ?_;refine ZaW ?_;exact zz.out):A:=k ⟨h⟩
theorem Z9 (h:B) (k:Zh B→A:=by intro zz;refine ZaM ?_;refine Zg1 ?_;exact zz.out):A:=k ⟨h⟩
theorem Zkp (h:B) (k:Zh B→A:=by intro zz;refine Zhk ?_;refine Zhk ?_;exact zz.out):A:=k ⟨h⟩
theorem ZJ (h:B) (k:Zh B→A:=by intro zz;refine Zkm ?_;refine Zg2 ?_;exact zz.out):A:=k ⟨h⟩
theorem Zam (h:B) (k:Zh B→A:=by intro zz;refine Zah ?_;refine Zq ?_;exact zz.out):A:=k ⟨h⟩
theorem Zg3 (h:B) (k:Zh B→A:=by intro zz;refine Zf ?_;refine Zkp ?_;exact zz.out):A:=k ⟨h⟩
theorem ZaQ (h:B) (k:Zh B→A:=by intro zz;refine Zai ?_;refine Z4 ?_;exact zz.out):A:=k ⟨h⟩
theorem Zh1 (h:B) (k:Zh B→A:=by intro zz;refine Zm ?_;refine Zq ?_;exact zz.out):A:=k ⟨h⟩
theorem ZG (h:B) (k:Zh B→A:=by intro zz;refine Zl ?_;refine Zj ?_;exact zz.out):A:=k ⟨h⟩
theorem ZT (h:B) (k:Zh B→A:=by intro zz;refine ZF ?_;refine Zf ?_;exact zz.out):A:=k ⟨h⟩
theorem Zak (h:B) (k:Zh B→A:=by intro zz;refine Zl ?_;refine Zd ?_;exact zz.out):A:=k ⟨h⟩
theorem ZU (h:B) (k:Zh B→A:=by intro zz;refine Z7 ?_;refine Zq ?_;exact zz.out):A:=k ⟨h⟩
theorem ZP (h:B) (k:Zh B→A:=by intro zz;refine Zl ?_;refine Ze ?_;exact zz.out):A:=k ⟨h⟩
theorem Zfd (h:B) (k:Zh B→A:=by intro zz;refine Zkn ?_;refine Za9 ?_;exact zz.out):A:=k ⟨h⟩
theorem ZaG (h:B) (k:Zh B→A:=by intro zz;refine ZQ ?_;refine ZbV ?_;exact zz.out):A:=k ⟨h⟩
theorem ZD (h:B) (k:Zh B→A:=by intro zz;refine Za ?_;refine Zd ?_;exact zz.out):A:=k ⟨h⟩
theorem Zd7 (h:B) (k:Zh B→A:=by intro zz;refine Zh1 ?_;refine Zm ?_;exact zz.out):A:=k ⟨h⟩
theorem ZbX (h:B) (k:Zh B→A:=by intro zz;refine Zb ?_;refine Za9 ?_;exact zz.out):A:=k ⟨h⟩
theorem Zdd (h:B) (k:Zh B→A:=by intro zz;refine ZdU ?_;refine ZdU ?_;exact zz.out):A:=k ⟨h⟩
theorem ZV (h:B) (k:Zh B→A:=by intro zz;refine Zay ?_;refine ZY ?_;exact zz.out):A:=k ⟨h⟩
theorem ZW (h:B) (k:Zh B→A:=by intro zz;refine Zf ?_;refine Zf ?_;exact zz.out):A:=k ⟨h⟩
theorem ZX (h:B) (k:Zh B→A:=by intro zz;refine ZS ?_;refine Zfd ?_;exact zz.out):A:=k ⟨h⟩
theorem Zg4 (h:B) (k:Zh B→A:=by intro zz;refine Zgq ?_;refine Zc ?_;exact zz.out):A:=k ⟨h⟩
theorem Zaa (h:B) (k:Zh B→A:=by intro zz;refine Zk ?_;refine Zn ?_;exact zz.out):A:=k ⟨h⟩
theorem Zd8 (h:B) (k:Zh B→A:=by intro zz;refine Zd ?_;refine ZaF ?_;exact zz.out):A:=k ⟨h⟩
theorem Zbb (h:B) (k:Zh B→A:=by intro zz;refine Zf ?_;refine Zv ?_;exact zz.out):A:=k ⟨h⟩
theorem ZaH (h:B) (k:Zh B→A:=by intro zz;refine ZdT ?_;refine Zn ?_;exact zz.out):A:=k ⟨h⟩
theorem ZA (h:B) (k:Zh B→A:=by intro zz;refine ZM ?_;refine Zg4 ?_;exact zz.out):A:=k ⟨h⟩
theorem Zab (h:B) (k:Zh B→A:=by intro zz;refine ZQ ?_;refine Zd ?_;exact zz.out):A:=k ⟨h⟩
theorem Zkq (h:B) (k:Zh B→A:=by intro zz;refine Zk ?_;refine ZZ ?_;exact zz.out):A:=k ⟨h⟩
theorem ZbF (h:B) (k:Zh B→A:=by intro zz;refine Zbn ?_;refine Za9 ?_;exact zz.out):A:=k ⟨h⟩
theorem Zbp (h:B) (k:Zh B→A:=by intro zz;refine Zd6 ?_;refine ZaW ?_;exact zz.out):A:=k ⟨h⟩
theorem Z1 (h:B) (k:Zh B→A:=by intro zz;refine ZL ?_;refine Zo ?_;exact zz.out):A:=k ⟨h⟩
theorem ZaI (h:B) (k:Zh B→A:=by intro zz;refine Zm ?_;refine ZQ ?_;exact zz.out):A:=k ⟨h⟩
theorem ZcL (h:B) (k:Zh B→A:=by intro zz;refine ZR ?_;refine Zar ?_;exact zz.out):A:=k ⟨h⟩
theorem Zfe (h:B) (k:Zh B→A:=by intro zz;refine Zd8 ?_;refine Zq ?_;exact zz.out):A:=k ⟨h⟩
theorem ZaR (h:B) (k:Zh B→A:=by intro zz;refine Z0 ?_;refine Zar ?_;exact zz.out):A:=k ⟨h⟩
theorem Za1 (h:B) (k:Zh B→A:=by intro zz;refine Zd ?_;refine ZaM ?_;exact zz.out):A:=k ⟨h⟩
theorem ZaJ (h:B) (k:Zh B→A:=by intro zz;refine ZS ?_;refine Zw ?_;exact zz.out):A:=k ⟨h⟩
theorem Zck (h:B) (k:Zh B→A:=by intro zz;refine ZS ?_;refine Zbf ?_;exact zz.out):A:=k ⟨h⟩
theorem ZbG (h:B) (k:Zh B→A:=by intro zz;refine Zaj ?_;refine Zar ?_;exact zz.out):A:=k ⟨h⟩
theorem Zac (h:B) (k:Zh B→A:=by intro zz;refine Zg ?_;refine ZF ?_;exact zz.out):A:=k ⟨h⟩
theorem ZbH (h:B) (k:Zh B→A:=by intro zz;refine Zm ?_;refine ZL ?_;exact zz.out):A:=k ⟨h⟩
theorem Zal (h:B) (k:Zh B→A:=by intro zz;refine Zai ?_;refine ZaV ?_;exact zz.out):A:=k ⟨h⟩
theorem Zan (h:B) (k:Zh B→A:=by intro zz;refine Zr ?_;refine Zo ?_;exact zz.out):A:=k ⟨h⟩
theorem Zde (h:B) (k:Zh B→A:=by intro zz;refine Zci ?_;refine Zq ?_;exact zz.out):A:=k ⟨h⟩
theorem Zao (h:B) (k:Zh B→A:=by intro zz;refine Zp ?_;refine Zk ?_;exact zz.out):A:=k ⟨h⟩
theorem Zbq (h:B) (k:Zh B→A:=by intro zz;refine Zg3 ?_;refine Zn ?_;exact zz.out):A:=k ⟨h⟩
theorem Zap (h:B) (k:Zh B→A:=by intro zz;refine Zd ?_;refine Zl ?_;exact zz.out):A:=k ⟨h⟩
theorem Zdf (h:B) (k:Zh B→A:=by intro zz;refine Zko ?_;refine ZbE ?_;exact zz.out):A:=k ⟨h⟩
theorem ZiS (h:B) (k:Zh B→A:=by intro zz;refine Zah ?_;refine Zy ?_;exact zz.out):A:=k ⟨h⟩
theorem ZbI (h:B) (k:Zh B→A:=by intro zz;refine Zfe ?_;refine ZbX ?_;exact zz.out):A:=k ⟨h⟩
theorem Zaq (h:B) (k:Zh B→A:=by intro zz;refine ZaP ?_;refine Zaz ?_;exact zz.out):A:=k ⟨h⟩
theorem ZbY (h:B) (k:Zh B→A:=by intro zz;refine Zh0 ?_;refine Zk ?_;exact zz.out):A:=k ⟨h⟩
theorem Zh2 (h:B) (k:Zh B→A:=by intro zz;refine Zay ?_;refine Ze ?_;exact zz.out):A:=k ⟨h⟩
theorem Zff (h:B) (k:Zh B→A:=by intro zz;refine Zkq ?_;refine ZbV ?_;exact zz.out):A:=k ⟨h⟩
theorem Zkr (h:B) (k:Zh B→A:=by intro zz;refine Zba ?_;refine Zs ?_;exact zz.out):A:=k ⟨h⟩
theorem Z6 (h:B) (k:Zh B→A:=by intro zz;refine Zt ?_;refine Zg ?_;exact zz.out):A:=k ⟨h⟩
theorem Zfg (h:B) (k:Zh B→A:=by intro zz;refine Z7 ?_;refine Zm ?_;exact zz.out):A:=k ⟨h⟩
theorem Zbr (h:B) (k:Zh B→A:=by intro zz;refine Zar ?_;refine Zm ?_;exact zz.out):A:=k ⟨h⟩
theorem Zad (h:B) (k:Zh B→A:=by intro zz;refine ZQ ?_;refine ZbE ?_;exact zz.out):A:=k ⟨h⟩
theorem ZbZ (h:B) (k:Zh B→A:=by intro zz;refine Zat ?_;refine Zq ?_;exact zz.out):A:=k ⟨h⟩
theorem Za2 (h:B) (k:Zh B→A:=by intro zz;refine Zb ?_;refine Zk ?_;exact zz.out):A:=k ⟨h⟩
theorem ZcM (h:B) (k:Zh B→A:=by intro zz;refine Zcj ?_;refine Zcj ?_;exact zz.out):A:=k ⟨h⟩
theorem Zdg (h:B) (k:Zh B→A:=by intro zz;refine ZM ?_;refine Zh2 ?_;exact zz.out):A:=k ⟨h⟩
theorem Zbs (h:B) (k:Zh B→A:=by intro zz;refine ZF ?_;refine Zz ?_;exact zz.out):A:=k ⟨h⟩
theorem ZaS (h:B) (k:Zh B→A:=by intro zz;refine Zx ?_;refine Zf ?_;exact zz.out):A:=k ⟨h⟩
theorem Zbt (h:B) (k:Zh B→A:=by intro zz;refine Zb ?_;refine Zu ?_;exact zz.out):A:=k ⟨h⟩
theorem Zag (h:B) (k:Zh B→A:=by intro zz;refine Za ?_;refine Zf ?_;exact zz.out):A:=k ⟨h⟩
theorem ZbJ (h:B) (k:Zh B→A:=by intro zz;refine Zs ?_;refine Zo ?_;exact zz.out):A:=k ⟨h⟩
theorem Zd9 (h:B) (k:Zh B→A:=by intro zz;refine Zd ?_;refine ZbW ?_;exact zz.out):A:=k ⟨h⟩
theorem Zea (h:B) (k:Zh B→A:=by intro zz;refine Zt ?_;refine ZbF ?_;exact zz.out):A:=k ⟨h⟩
theorem Zbi (h:B) (k:Zh B→A:=by intro zz;refine ZaG ?_;refine Zl ?_;exact zz.out):A:=k ⟨h⟩
theorem Zdh (h:B) (k:Zh B→A:=by intro zz;refine ZaQ ?_;refine Z4 ?_;exact zz.out):A:=k ⟨h⟩
theorem Zbu (h:B) (k:Zh B→A:=by intro zz;refine ZR ?_;refine Zm ?_;exact zz.out):A:=k ⟨h⟩
theorem ZbK (h:B) (k:Zh B→A:=by intro zz;refine ZS ?_;refine Zm ?_;exact zz.out):A:=k ⟨h⟩
theorem Zdi (h:B) (k:Zh B→A:=by intro zz;refine ZaF ?_;refine Zas ?_;exact zz.out):A:=k ⟨h⟩
theorem Zfh (h:B) (k:Zh B→A:=by intro zz;refine Zas ?_;refine Zm ?_;exact zz.out):A:=k ⟨h⟩
theorem Zfi (h:B) (k:Zh B→A:=by intro zz;refine Zdf ?_;refine Zk ?_;exact zz.out):A:=k ⟨h⟩
theorem Za3 (h:B) (k:Zh B→A:=by intro zz;refine Zaj ?_;refine Zam ?_;exact zz.out):A:=k ⟨h⟩
theorem Zb0 (h:B) (k:Zh B→A:=by intro zz;refine Zt ?_;refine Zk ?_;exact zz.out):A:=k ⟨h⟩
theorem ZiT (h:B) (k:Zh B→A:=by intro zz;refine Zae ?_;refine Zb ?_;exact zz.out):A:=k ⟨h⟩
theorem Zdj (h:B) (k:Zh B→A:=by intro zz;refine ZR ?_;refine ZiS ?_;exact zz.out):A:=k ⟨h⟩
theorem Zaw (h:B) (k:Zh B→A:=by intro zz;refine ZQ ?_;refine ZN ?_;exact zz.out):A:=k ⟨h⟩
theorem Zax (h:B) (k:Zh B→A:=by intro zz;refine Zd ?_;refine Z9 ?_;exact zz.out):A:=k ⟨h⟩
theorem ZaB (h:B) (k:Zh B→A:=by intro zz;refine ZK ?_;refine ZK ?_;exact zz.out):A:=k ⟨h⟩
theorem Zbv (h:B) (k:Zh B→A:=by intro zz;refine Zb ?_;refine Z0 ?_;exact zz.out):A:=k ⟨h⟩
theorem Zeb (h:B) (k:Zh B→A:=by intro zz;refine ZB ?_;refine Zf ?_;exact zz.out):A:=k ⟨h⟩
theorem ZcN (h:B) (k:Zh B→A:=by intro zz;refine Zg3 ?_;refine Zhk ?_;exact zz.out):A:=k ⟨h⟩
theorem Zfj (h:B) (k:Zh B→A:=by intro zz;refine Zc3 ?_;refine ZiT ?_;exact zz.out):A:=k ⟨h⟩
theorem Zdk (h:B) (k:Zh B→A:=by intro zz;refine ZaQ ?_;refine ZaV ?_;exact zz.out):A:=k ⟨h⟩
theorem Zfk (h:B) (k:Zh B→A:=by intro zz;refine Zk ?_;refine ZY ?_;exact zz.out):A:=k ⟨h⟩
theorem ZaK (h:B) (k:Zh B→A:=by intro zz;refine Zar ?_;refine Zd7 ?_;exact zz.out):A:=k ⟨h⟩
theorem Zks (h:B) (k:Zh B→A:=by intro zz;refine Zu ?_;refine ZdV ?_;exact zz.out):A:=k ⟨h⟩
theorem Zh3 (h:B) (k:Zh B→A:=by intro zz;refine Z5 ?_;refine ZZ ?_;exact zz.out):A:=k ⟨h⟩
theorem Zb1 (h:B) (k:Zh B→A:=by intro zz;refine Zh0 ?_;refine Zl ?_;exact zz.out):A:=k ⟨h⟩
theorem Zfl (h:B) (k:Zh B→A:=by intro zz;refine Zde ?_;refine Zr ?_;exact zz.out):A:=k ⟨h⟩
theorem ZaL (h:B) (k:Zh B→A:=by intro zz;refine ZM ?_;refine ZV ?_;exact zz.out):A:=k ⟨h⟩
theorem Zh4 (h:B) (k:Zh B→A:=by intro zz;refine ZcB ?_;refine Zaf ?_;exact zz.out):A:=k ⟨h⟩
theorem Zdl (h:B) (k:Zh B→A:=by intro zz;refine Zl ?_;refine ZO ?_;exact zz.out):A:=k ⟨h⟩
theorem Zh5 (h:B) (k:Zh B→A:=by intro zz;refine Zg ?_;refine ZbW ?_;exact zz.out):A:=k ⟨h⟩
theorem Zb2 (h:B) (k:Zh B→A:=by intro zz;refine Zbn ?_;refine ZaM ?_;exact zz.out):A:=k ⟨h⟩
theorem Zkt (h:B) (k:Zh B→A:=by intro zz;refine Zea ?_;refine Zu ?_;exact zz.out):A:=k ⟨h⟩
theorem Zdm (h:B) (k:Zh B→A:=by intro zz;refine Zu ?_;refine ZW ?_;exact zz.out):A:=k ⟨h⟩
theorem ZaT (h:B) (k:Zh B→A:=by intro zz;refine Zav ?_;refine Zaa ?_;exact zz.out):A:=k ⟨h⟩
theorem ZaU (h:B) (k:Zh B→A:=by intro zz;refine Zb ?_;refine ZkG ?_;exact zz.out):A:=k ⟨h⟩
theorem ZcO (h:B) (k:Zh B→A:=by intro zz;refine Z7 ?_;refine Zd7 ?_;exact zz.out):A:=k ⟨h⟩
theorem Zdn (h:B) (k:Zh B→A:=by intro zz;refine ZdW ?_;refine Zm ?_;exact zz.out):A:=k ⟨h⟩
theorem Za4 (h:B) (k:Zh B→A:=by intro zz;refine Zb ?_;refine Zl ?_;exact zz.out):A:=k ⟨h⟩
theorem Zfm (h:B) (k:Zh B→A:=by intro zz;refine Zl ?_;refine Zhl ?_;exact zz.out):A:=k ⟨h⟩
theorem Zec (h:B) (k:Zh B→A:=by intro zz;refine Zr ?_;refine ZN ?_;exact zz.out):A:=k ⟨h⟩
theorem Za5 (h:B) (k:Zh B→A:=by intro zz;refine Zt ?_;refine Zx ?_;exact zz.out):A:=k ⟨h⟩
theorem Za6 (h:B) (k:Zh B→A:=by intro zz;refine Zf ?_;refine Ze ?_;exact zz.out):A:=k ⟨h⟩
theorem Zdo (h:B) (k:Zh B→A:=by intro zz;refine ZkH ?_;refine Zc ?_;exact zz.out):A:=k ⟨h⟩
theorem Zed (h:B) (k:Zh B→A:=by intro zz;refine Zfi ?_;refine ZU ?_;exact zz.out):A:=k ⟨h⟩
theorem Za7 (h:B) (k:Zh B→A:=by intro zz;refine ZbI ?_;refine ZcM ?_;exact zz.out):A:=k ⟨h⟩
theorem Zku (h:B) (k:Zh B→A:=by intro zz;refine ZO ?_;refine Zm ?_;exact zz.out):A:=k ⟨h⟩
theorem Zkv (h:B) (k:Zh B→A:=by intro zz;refine ZF ?_;refine ZO ?_;exact zz.out):A:=k ⟨h⟩
theorem Zdp (h:B) (k:Zh B→A:=by intro zz;refine ZF ?_;refine Zs ?_;exact zz.out):A:=k ⟨h⟩
theorem Za8 (h:B) (k:Zh B→A:=by intro zz;refine Zb ?_;refine Z9 ?_;exact zz.out):A:=k ⟨h⟩
theorem Zfn (h:B) (k:Zh B→A:=by intro zz;refine Zhl ?_;refine Zm ?_;exact zz.out):A:=k ⟨h⟩
theorem Zdq (h:B) (k:Zh B→A:=by intro zz;refine ZQ ?_;refine Zb ?_;exact zz.out):A:=k ⟨h⟩
theorem Zh6 (h:B) (k:Zh B→A:=by intro zz;refine Zb ?_;refine ZG ?_;exact zz.out):A:=k ⟨h⟩
theorem Zbc (h:B) (k:Zh B→A:=by intro zz;refine Zu ?_;refine Ze ?_;exact zz.out):A:=k ⟨h⟩
theorem Zbd (h:B) (k:Zh B→A:=by intro zz;refine Zh0 ?_;refine Zak ?_;exact zz.out):A:=k ⟨h⟩
theorem ZcP (h:B) (k:Zh B→A:=by intro zz;refine Zdh ?_;refine ZaV ?_;exact zz.out):A:=k ⟨h⟩
theorem Zfo (h:B) (k:Zh B→A:=by intro zz;refine Zd ?_;refine Zx ?_;exact zz.out):A:=k ⟨h⟩
theorem Zfp (h:B) (k:Zh B→A:=by intro zz;refine Zv ?_;refine Zm ?_;exact zz.out):A:=k ⟨h⟩
theorem Zh7 (h:B) (k:Zh B→A:=by intro zz;refine Zh3 ?_;refine ZN ?_;exact zz.out):A:=k ⟨h⟩
theorem Zcl (h:B) (k:Zh B→A:=by intro zz;refine Zav ?_;refine Zk ?_;exact zz.out):A:=k ⟨h⟩
theorem ZcQ (h:B) (k:Zh B→A:=by intro zz;refine Zz ?_;refine Z3 ?_;exact zz.out):A:=k ⟨h⟩
theorem Zcm (h:B) (k:Zh B→A:=by intro zz;refine Zdd ?_;refine Zdd ?_;exact zz.out):A:=k ⟨h⟩
theorem Zg5 (h:B) (k:Zh B→A:=by intro zz;refine Zhm ?_;refine Zhm ?_;exact zz.out):A:=k ⟨h⟩
theorem Zh8 (h:B) (k:Zh B→A:=by intro zz;refine Zaz ?_;refine Zhn ?_;exact zz.out):A:=k ⟨h⟩
theorem Zbj (h:B) (k:Zh B→A:=by intro zz;refine ZaP ?_;refine Zh4 ?_;exact zz.out):A:=k ⟨h⟩
theorem Zh9 (h:B) (k:Zh B→A:=by intro zz;refine ZT ?_;refine Zkr ?_;exact zz.out):A:=k ⟨h⟩
theorem Zbk (h:B) (k:Zh B→A:=by intro zz;refine ZQ ?_;refine Zbp ?_;exact zz.out):A:=k ⟨h⟩
theorem Zbl (h:B) (k:Zh B→A:=by intro zz;refine Zaj ?_;refine ZbZ ?_;exact zz.out):A:=k ⟨h⟩
theorem Zia (h:B) (k:Zh B→A:=by intro zz;refine Zd ?_;refine Zh5 ?_;exact zz.out):A:=k ⟨h⟩
theorem ZcR (h:B) (k:Zh B→A:=by intro zz;refine ZF ?_;refine ZaJ ?_;exact zz.out):A:=k ⟨h⟩
theorem Zee (h:B) (k:Zh B→A:=by intro zz;refine Zl ?_;refine Zn ?_;exact zz.out):A:=k ⟨h⟩
theorem Zg6 (h:B) (k:Zh B→A:=by intro zz;refine Zd ?_;refine Zp ?_;exact zz.out):A:=k ⟨h⟩
theorem Zg7 (h:B) (k:Zh B→A:=by intro zz;refine ZO ?_;refine ZbV ?_;exact zz.out):A:=k ⟨h⟩
theorem Zib (h:B) (k:Zh B→A:=by intro zz;refine Zr ?_;refine ZC ?_;exact zz.out):A:=k ⟨h⟩
theorem Zbm (h:B) (k:Zh B→A:=by intro zz;refine ZbH ?_;refine ZC ?_;exact zz.out):A:=k ⟨h⟩
theorem Zbw (h:B) (k:Zh B→A:=by intro zz;refine Zb ?_;refine Zg ?_;exact zz.out):A:=k ⟨h⟩
theorem ZiU (h:B) (k:Zh B→A:=by intro zz;refine Zl ?_;refine ZZ ?_;exact zz.out):A:=k ⟨h⟩
theorem Zfq (h:B) (k:Zh B→A:=by intro zz;refine ZN ?_;refine Z3 ?_;exact zz.out):A:=k ⟨h⟩
theorem Zbx (h:B) (k:Zh B→A:=by intro zz;refine Zi7 ?_;refine Zc ?_;exact zz.out):A:=k ⟨h⟩
theorem Zdr (h:B) (k:Zh B→A:=by intro zz;refine Zg ?_;refine ZbG ?_;exact zz.out):A:=k ⟨h⟩
theorem Zby (h:B) (k:Zh B→A:=by intro zz;refine ZkI ?_;refine Zfk ?_;exact zz.out):A:=k ⟨h⟩
theorem Zds (h:B) (k:Zh B→A:=by intro zz;refine Zu ?_;refine ZR ?_;exact zz.out):A:=k ⟨h⟩
theorem Zdt (h:B) (k:Zh B→A:=by intro zz;refine ZQ ?_;refine Zdj ?_;exact zz.out):A:=k ⟨h⟩
theorem Zbz (h:B) (k:Zh B→A:=by intro zz;refine ZQ ?_;refine Z3 ?_;exact zz.out):A:=k ⟨h⟩
theorem Zef (h:B) (k:Zh B→A:=by intro zz;refine Zf ?_;refine ZaY ?_;exact zz.out):A:=k ⟨h⟩
theorem Zic (h:B) (k:Zh B→A:=by intro zz;refine Zeb ?_;refine ZaD ?_;exact zz.out):A:=k ⟨h⟩
theorem Zg8 (h:B) (k:Zh B→A:=by intro zz;refine ZcL ?_;refine Zy ?_;exact zz.out):A:=k ⟨h⟩
theorem Zfr (h:B) (k:Zh B→A:=by intro zz;refine ZR ?_;refine Z7 ?_;exact zz.out):A:=k ⟨h⟩
theorem ZbL (h:B) (k:Zh B→A:=by intro zz;refine Zae ?_;refine Zy ?_;exact zz.out):A:=k ⟨h⟩
theorem ZbM (h:B) (k:Zh B→A:=by intro zz;refine Zcd ?_;refine Zbn ?_;exact zz.out):A:=k ⟨h⟩
theorem Zg9 (h:B) (k:Zh B→A:=by intro zz;refine Zck ?_;refine Zd ?_;exact zz.out):A:=k ⟨h⟩
theorem Zha (h:B) (k:Zh B→A:=by intro zz;refine ZT ?_;refine Zv ?_;refine Zf ?_;refine Zkr ?_;exact zz.out):A:=k ⟨h⟩
theorem Zhb (h:B) (k:Zh B→A:=by intro zz;refine ZN ?_;refine ZeS ?_;exact zz.out):A:=k ⟨h⟩
theorem Zeg (h:B) (k:Zh B→A:=by intro zz;refine ZJ ?_;refine ZF ?_;exact zz.out):A:=k ⟨h⟩
theorem ZbN (h:B) (k:Zh B→A:=by intro zz;refine Zh6 ?_;refine ZkJ ?_;exact zz.out):A:=k ⟨h⟩
theorem Zkw (h:B) (k:Zh B→A:=by intro zz;refine Za ?_;refine Zh7 ?_;exact zz.out):A:=k ⟨h⟩
theorem Zkx (h:B) (k:Zh B→A:=by intro zz;refine Zfg ?_;refine Zfh ?_;exact zz.out):A:=k ⟨h⟩
theorem ZbO (h:B) (k:Zh B→A:=by intro zz;refine ZD ?_;refine Zc4 ?_;exact zz.out):A:=k ⟨h⟩
theorem ZbP (h:B) (k:Zh B→A:=by intro zz;refine Zdg ?_;refine Zi6 ?_;exact zz.out):A:=k ⟨h⟩
theorem ZbQ (h:B) (k:Zh B→A:=by intro zz;refine Zab ?_;refine Zho ?_;exact zz.out):A:=k ⟨h⟩
theorem Zeh (h:B) (k:Zh B→A:=by intro zz;refine Zbq ?_;refine Zbs ?_;exact zz.out):A:=k ⟨h⟩
theorem Zb3 (h:B) (k:Zh B→A:=by intro zz;refine Zb ?_;refine Zx ?_;exact zz.out):A:=k ⟨h⟩
theorem Zb4 (h:B) (k:Zh B→A:=by intro zz;refine Zw ?_;refine Zo ?_;exact zz.out):A:=k ⟨h⟩
theorem Zhc (h:B) (k:Zh B→A:=by intro zz;refine Zf ?_;refine ZI ?_;exact zz.out):A:=k ⟨h⟩
theorem Zb5 (h:B) (k:Zh B→A:=by intro zz;refine Z0 ?_;refine Zam ?_;exact zz.out):A:=k ⟨h⟩
theorem Zb6 (h:B) (k:Zh B→A:=by intro zz;refine ZH ?_;refine Zr ?_;exact zz.out):A:=k ⟨h⟩
theorem Zb7 (h:B) (k:Zh B→A:=by intro zz;refine Zav ?_;refine Zg ?_;exact zz.out):A:=k ⟨h⟩
theorem Zb8 (h:B) (k:Zh B→A:=by intro zz;refine ZbK ?_;refine Zw ?_;exact zz.out):A:=k ⟨h⟩
theorem Zfs (h:B) (k:Zh B→A:=by intro zz;refine Zae ?_;refine Zo ?_;exact zz.out):A:=k ⟨h⟩
theorem Zb9 (h:B) (k:Zh B→A:=by intro zz;refine Zh9 ?_;refine Zkt ?_;refine Zhl ?_;refine Zia ?_;refine ZP ?_;refine ZkK ?_;exact zz.out):A:=k ⟨h⟩
theorem Zft (h:B) (k:Zh B→A:=by intro zz;refine Zdd ?_;refine ZaV ?_;exact zz.out):A:=k ⟨h⟩
theorem Zfu (h:B) (k:Zh B→A:=by intro zz;refine ZbY ?_;refine ZI ?_;exact zz.out):A:=k ⟨h⟩
theorem Zca (h:B) (k:Zh B→A:=by intro zz;refine Zkw ?_;refine Zib ?_;refine Zfm ?_;refine Zd9 ?_;refine ZiU ?_;refine Zd ?_;exact zz.out):A:=k ⟨h⟩
theorem Zfv (h:B) (k:Zh B→A:=by intro zz;refine Zah ?_;refine Zm ?_;exact zz.out):A:=k ⟨h⟩
theorem Zcb (h:B) (k:Zh B→A:=by intro zz;refine ZL ?_;refine Zb0 ?_;exact zz.out):A:=k ⟨h⟩
theorem Zcc (h:B) (k:Zh B→A:=by intro zz;refine ZcN ?_;refine ZaH ?_;exact zz.out):A:=k ⟨h⟩
theorem Zcn (h:B) (k:Zh B→A:=by intro zz;refine Zb ?_;refine Zak ?_;exact zz.out):A:=k ⟨h⟩
theorem Zco (h:B) (k:Zh B→A:=by intro zz;refine ZN ?_;refine Zbu ?_;exact zz.out):A:=k ⟨h⟩
theorem Zhd (h:B) (k:Zh B→A:=by intro zz;refine Zav ?_;refine ZP ?_;exact zz.out):A:=k ⟨h⟩
theorem Zcp (h:B) (k:Zh B→A:=by intro zz;refine Zcj ?_;refine Zed ?_;exact zz.out):A:=k ⟨h⟩
theorem Zhe (h:B) (k:Zh B→A:=by intro zz;refine Zg6 ?_;refine Zp ?_;exact zz.out):A:=k ⟨h⟩
theorem Zcq (h:B) (k:Zh B→A:=by intro zz;refine Zg7 ?_;refine Zks ?_;refine ZkL ?_;exact zz.out):A:=k ⟨h⟩
theorem ZiV (h:B) (k:Zh B→A:=by intro zz;refine Zdm ?_;refine Zbb ?_;refine Zhp ?_;refine ZaC ?_;exact zz.out):A:=k ⟨h⟩
theorem Zcr (h:B) (k:Zh B→A:=by intro zz;refine Zfo ?_;refine Zbb ?_;refine Za1 ?_;exact zz.out):A:=k ⟨h⟩
theorem ZiW (h:B) (k:Zh B→A:=by intro zz;refine Zfp ?_;refine Zfn ?_;exact zz.out):A:=k ⟨h⟩
theorem Zid (h:B) (k:Zh B→A:=by intro zz;refine Zbi ?_;refine Zec ?_;exact zz.out):A:=k ⟨h⟩
theorem Zhf (h:B) (k:Zh B→A:=by intro zz;refine Zcd ?_;refine Zdl ?_;exact zz.out):A:=k ⟨h⟩
theorem Zcs (h:B) (k:Zh B→A:=by intro zz;refine Zd ?_;refine Zao ?_;exact zz.out):A:=k ⟨h⟩
theorem Zct (h:B) (k:Zh B→A:=by intro zz;refine ZdT ?_;refine Zc ?_;exact zz.out):A:=k ⟨h⟩
theorem Zhg (h:B) (k:Zh B→A:=by intro zz;refine ZbR ?_;refine ZbR ?_;exact zz.out):A:=k ⟨h⟩
theorem Zky (h:B) (k:Zh B→A:=by intro zz;refine Zgq ?_;refine Zb ?_;exact zz.out):A:=k ⟨h⟩
theorem Zcu (h:B) (k:Zh B→A:=by intro zz;refine Zu ?_;refine ZaH ?_;refine ZkM ?_;exact zz.out):A:=k ⟨h⟩
theorem Zhh (h:B) (k:Zh B→A:=by intro zz;refine Zce ?_;refine ZbS ?_;exact zz.out):A:=k ⟨h⟩
theorem Zcv (h:B) (k:Zh B→A:=by intro zz;refine Zdi ?_;refine Zan ?_;exact zz.out):A:=k ⟨h⟩
theorem ZiX (h:B) (k:Zh B→A:=by intro zz;refine ZbX ?_;refine Zff ?_;exact zz.out):A:=k ⟨h⟩
theorem Zcw (h:B) (k:Zh B→A:=by intro zz;refine Ze ?_;refine Zi6 ?_;exact zz.out):A:=k ⟨h⟩
theorem Zcx (h:B) (k:Zh B→A:=by intro zz;refine Zfg ?_;refine Zdn ?_;exact zz.out):A:=k ⟨h⟩
theorem Zcy (h:B) (k:Zh B→A:=by intro zz;refine ZeR ?_;refine ZkN ?_;exact zz.out):A:=k ⟨h⟩
theorem Zcz (h:B) (k:Zh B→A:=by intro zz;refine Z5 ?_;refine ZX ?_;exact zz.out):A:=k ⟨h⟩
theorem Zhi (h:B) (k:Zh B→A:=by intro zz;refine Zd ?_;refine Zci ?_;exact zz.out):A:=k ⟨h⟩
theorem Zie (h:B) (k:Zh B→A:=by intro zz;refine Zar ?_;refine Zic ?_;exact zz.out):A:=k ⟨h⟩
theorem ZcA (h:B) (k:Zh B→A:=by intro zz;refine Zu ?_;refine Zv ?_;exact zz.out):A:=k ⟨h⟩
theorem Zhj (h:B) (k:Zh B→A:=by intro zz;refine Zau ?_;refine Zc ?_;exact zz.out):A:=k ⟨h⟩
theorem ZcS (h:B) (k:Zh B→A:=by intro zz;refine ZaR ?_;refine Zq ?_;exact zz.out):A:=k ⟨h⟩
theorem ZcT (h:B) (k:Zh B→A:=by intro zz;refine Za2 ?_;refine Zdo ?_;exact zz.out):A:=k ⟨h⟩
theorem ZcU (h:B) (k:Zh B→A:=by intro zz;refine Zb ?_;refine ZkO ?_;exact zz.out):A:=k ⟨h⟩
theorem ZcV (h:B) (k:Zh B→A:=by intro zz;refine ZF ?_;refine ZL ?_;exact zz.out):A:=k ⟨h⟩
theorem ZcW (h:B) (k:Zh B→A:=by intro zz;refine ZE ?_;refine Ze ?_;exact zz.out):A:=k ⟨h⟩
theorem ZiY (h:B) (k:Zh B→A:=by intro zz;refine ZH ?_;refine Zku ?_;exact zz.out):A:=k ⟨h⟩
theorem ZiZ (h:B) (k:Zh B→A:=by intro zz;refine Zai ?_;refine ZaI ?_;exact zz.out):A:=k ⟨h⟩
theorem Zif (h:B) (k:Zh B→A:=by intro zz;refine Zr ?_;refine Zal ?_;exact zz.out):A:=k ⟨h⟩
theorem ZcX (h:B) (k:Zh B→A:=by intro zz;refine Z3 ?_;refine ZcO ?_;exact zz.out):A:=k ⟨h⟩
theorem ZcY (h:B) (k:Zh B→A:=by intro zz;refine ZcC ?_;refine Zky ?_;exact zz.out):A:=k ⟨h⟩
theorem ZcZ (h:B) (k:Zh B→A:=by intro zz;refine Zr ?_;refine Z3 ?_;exact zz.out):A:=k ⟨h⟩
theorem Zkz (h:B) (k:Zh B→A:=by intro zz;refine Zt ?_;refine ZiR ?_;exact zz.out):A:=k ⟨h⟩
theorem Zc0 (h:B) (k:Zh B→A:=by intro zz;refine Zah ?_;refine ZaA ?_;exact zz.out):A:=k ⟨h⟩
theorem Zc1 (h:B) (k:Zh B→A:=by intro zz;refine Zdp ?_;refine ZN ?_;exact zz.out):A:=k ⟨h⟩
theorem Zc2 (h:B) (k:Zh B→A:=by intro zz;refine Zay ?_;refine ZbA ?_;exact zz.out):A:=k ⟨h⟩
theorem Zdu (h:B) (k:Zh B→A:=by intro zz;refine ZH ?_;refine ZeS ?_;exact zz.out):A:=k ⟨h⟩
theorem Zdv (h:B) (k:Zh B→A:=by intro zz;refine Zba ?_;refine Zm ?_;exact zz.out):A:=k ⟨h⟩
theorem Zdw (h:B) (k:Zh B→A:=by intro zz;refine ZJ ?_;refine Zg ?_;exact zz.out):A:=k ⟨h⟩
theorem Zdx (h:B) (k:Zh B→A:=by intro zz;refine Z5 ?_;refine Zs ?_;exact zz.out):A:=k ⟨h⟩
theorem Zdy (h:B) (k:Zh B→A:=by intro zz;refine Zb ?_;refine ZF ?_;exact zz.out):A:=k ⟨h⟩
theorem Zi0 (h:B) (k:Zh B→A:=by intro zz;refine ZaN ?_;refine Zy ?_;exact zz.out):A:=k ⟨h⟩
theorem Zdz (h:B) (k:Zh B→A:=by intro zz;refine Zc3 ?_;refine Zfj ?_;exact zz.out):A:=k ⟨h⟩
theorem ZdA (h:B) (k:Zh B→A:=by intro zz;refine ZQ ?_;refine Zai ?_;exact zz.out):A:=k ⟨h⟩
theorem ZdB (h:B) (k:Zh B→A:=by intro zz;refine ZaM ?_;refine ZiV ?_;exact zz.out):A:=k ⟨h⟩
theorem ZdC (h:B) (k:Zh B→A:=by intro zz;refine Zha ?_;refine ZN ?_;refine Zfq ?_;refine ZiW ?_;refine ZdV ?_;exact zz.out):A:=k ⟨h⟩
theorem ZdD (h:B) (k:Zh B→A:=by intro zz;refine Za ?_;refine Zdq ?_;exact zz.out):A:=k ⟨h⟩
theorem Zi1 (h:B) (k:Zh B→A:=by intro zz;refine Zhb ?_;refine ZaI ?_;exact zz.out):A:=k ⟨h⟩
theorem ZkA (h:B) (k:Zh B→A:=by intro zz;refine ZaG ?_;refine Zks ?_;refine ZkP ?_;exact zz.out):A:=k ⟨h⟩
theorem ZdE (h:B) (k:Zh B→A:=by intro zz;refine ZcL ?_;refine Zq ?_;refine Zi8 ?_;refine Zg8 ?_;exact zz.out):A:=k ⟨h⟩
theorem ZdF (h:B) (k:Zh B→A:=by intro zz;refine Zb1 ?_;refine ZI ?_;exact zz.out):A:=k ⟨h⟩
theorem ZdG (h:B) (k:Zh B→A:=by intro zz;refine ZL ?_;refine ZN ?_;exact zz.out):A:=k ⟨h⟩
theorem ZkB (h:B) (k:Zh B→A:=by intro zz;refine Zce ?_;refine Zbg ?_;exact zz.out):A:=k ⟨h⟩
theorem Zi2 (h:B) (k:Zh B→A:=by intro zz;refine Zbf ?_;refine Zap ?_;exact zz.out):A:=k ⟨h⟩
theorem ZdH (h:B) (k:Zh B→A:=by intro zz;refine Zg9 ?_;refine Za9 ?_;exact zz.out):A:=k ⟨h⟩
theorem ZdI (h:B) (k:Zh B→A:=by intro zz;refine Zkv ?_;refine Zbp ?_;exact zz.out):A:=k ⟨h⟩
theorem ZdJ (h:B) (k:Zh B→A:=by intro zz;refine Zkv ?_;refine Zkz ?_;exact zz.out):A:=k ⟨h⟩
theorem ZdK (h:B) (k:Zh B→A:=by intro zz;refine Zat ?_;refine Zas ?_;exact zz.out):A:=k ⟨h⟩
theorem ZkC (h:B) (k:Zh B→A:=by intro zz;refine Zx ?_;refine Zbf ?_;refine Zd ?_;exact zz.out):A:=k ⟨h⟩
theorem ZdL (h:B) (k:Zh B→A:=by intro zz;refine Zb ?_;refine Zci ?_;exact zz.out):A:=k ⟨h⟩
theorem ZdM (h:B) (k:Zh B→A:=by intro zz;refine Z8 ?_;refine Zci ?_;exact zz.out):A:=k ⟨h⟩
theorem ZdN (h:B) (k:Zh B→A:=by intro zz;refine Zk ?_;refine Z7 ?_;exact zz.out):A:=k ⟨h⟩
theorem ZdO (h:B) (k:Zh B→A:=by intro zz;refine Zah ?_;refine ZeT ?_;exact zz.out):A:=k ⟨h⟩
theorem ZdP (h:B) (k:Zh B→A:=by intro zz;refine Zkq ?_;refine ZbE ?_;exact zz.out):A:=k ⟨h⟩
theorem Zi3 (h:B) (k:Zh B→A:=by intro zz;refine ZiX ?_;refine Zff ?_;exact zz.out):A:=k ⟨h⟩
theorem ZdQ (h:B) (k:Zh B→A:=by intro zz;refine Zig ?_;refine ZaE ?_;exact zz.out):A:=k ⟨h⟩
theorem ZdR (h:B) (k:Zh B→A:=by intro zz;refine Zf ?_;refine ZS ?_;exact zz.out):A:=k ⟨h⟩
theorem ZdS (h:B) (k:Zh B→A:=by intro zz;refine ZJ ?_;refine Zak ?_;exact zz.out):A:=k ⟨h⟩
theorem Zi4 (h:B) (k:Zh B→A:=by intro zz;refine ZeR ?_;refine Zhn ?_;exact zz.out):A:=k ⟨h⟩
theorem Zi5 (h:B) (k:Zh B→A:=by intro zz;refine Zt ?_;refine Zee ?_;exact zz.out):A:=k ⟨h⟩
theorem Zei (h:B) (k:Zh B→A:=by intro zz;refine Zfr ?_;refine Zy ?_;exact zz.out):A:=k ⟨h⟩
theorem Zej (h:B) (k:Zh B→A:=by intro zz;refine Zg ?_;refine Zp ?_;exact zz.out):A:=k ⟨h⟩
theorem Zek (h:B) (k:Zh B→A:=by intro zz;refine Zb2 ?_;refine Zg ?_;exact zz.out):A:=k ⟨h⟩
theorem Zel (h:B) (k:Zh B→A:=by intro zz;refine ZaS ?_;refine ZR ?_;exact zz.out):A:=k ⟨h⟩
theorem Zem (h:B) (k:Zh B→A:=by intro zz;refine ZbG ?_;refine Zq ?_;exact zz.out):A:=k ⟨h⟩
theorem Zen (h:B) (k:Zh B→A:=by intro zz;refine Zg ?_;refine Zl ?_;exact zz.out):A:=k ⟨h⟩
theorem Zeo (h:B) (k:Zh B→A:=by intro zz;refine Zac ?_;refine ZX ?_;exact zz.out):A:=k ⟨h⟩
theorem Zep (h:B) (k:Zh B→A:=by intro zz;refine Z5 ?_;refine ZbJ ?_;exact zz.out):A:=k ⟨h⟩
theorem Zeq (h:B) (k:Zh B→A:=by intro zz;refine ZaP ?_;refine Zc5 ?_;exact zz.out):A:=k ⟨h⟩
theorem Zer (h:B) (k:Zh B→A:=by intro zz;refine Zah ?_;refine Zd7 ?_;exact zz.out):A:=k ⟨h⟩
theorem Zes (h:B) (k:Zh B→A:=by intro zz;refine ZK ?_;refine ZaP ?_;exact zz.out):A:=k ⟨h⟩
theorem Zet (h:B) (k:Zh B→A:=by intro zz;refine Zbv ?_;refine ZU ?_;exact zz.out):A:=k ⟨h⟩
theorem Zeu (h:B) (k:Zh B→A:=by intro zz;refine Zd ?_;refine Zk ?_;exact zz.out):A:=k ⟨h⟩
theorem Zev (h:B) (k:Zh B→A:=by intro zz;refine ZiY ?_;refine ZiZ ?_;refine ZkA ?_;exact zz.out):A:=k ⟨h⟩
theorem Zew (h:B) (k:Zh B→A:=by intro zz;refine Zq ?_;refine ZS ?_;exact zz.out):A:=k ⟨h⟩
theorem Zex (h:B) (k:Zh B→A:=by intro zz;refine Zr ?_;refine Zav ?_;exact zz.out):A:=k ⟨h⟩
theorem Zey (h:B) (k:Zh B→A:=by intro zz;refine Zb ?_;refine Zaj ?_;exact zz.out):A:=k ⟨h⟩
theorem ZkD (h:B) (k:Zh B→A:=by intro zz;refine Zid ?_;refine Zku ?_;exact zz.out):A:=k ⟨h⟩
theorem Zez (h:B) (k:Zh B→A:=by intro zz;refine Zd9 ?_;refine Zfl ?_;exact zz.out):A:=k ⟨h⟩
theorem ZeA (h:B) (k:Zh B→A:=by intro zz;refine Zfl ?_;refine ZbV ?_;exact zz.out):A:=k ⟨h⟩
theorem ZeB (h:B) (k:Zh B→A:=by intro zz;refine ZkB ?_;refine ZY ?_;exact zz.out):A:=k ⟨h⟩
theorem ZeC (h:B) (k:Zh B→A:=by intro zz;refine Z3 ?_;refine Zbr ?_;exact zz.out):A:=k ⟨h⟩
theorem ZeD (h:B) (k:Zh B→A:=by intro zz;refine Za1 ?_;refine ZkC ?_;exact zz.out):A:=k ⟨h⟩
theorem ZeE (h:B) (k:Zh B→A:=by intro zz;refine ZQ ?_;refine ZcP ?_;exact zz.out):A:=k ⟨h⟩
theorem ZeF (h:B) (k:Zh B→A:=by intro zz;refine Zay ?_;refine ZaY ?_;exact zz.out):A:=k ⟨h⟩
theorem ZeG (h:B) (k:Zh B→A:=by intro zz;refine ZbR ?_;refine ZdX ?_;refine ZdX ?_;exact zz.out):A:=k ⟨h⟩
theorem ZeH (h:B) (k:Zh B→A:=by intro zz;refine ZF ?_;refine Z1 ?_;exact zz.out):A:=k ⟨h⟩
theorem ZeI (h:B) (k:Zh B→A:=by intro zz;refine ZcQ ?_;refine Zbr ?_;exact zz.out):A:=k ⟨h⟩
theorem ZeJ (h:B) (k:Zh B→A:=by intro zz;refine ZbY ?_;refine ZkQ ?_;exact zz.out):A:=k ⟨h⟩
theorem ZeK (h:B) (k:Zh B→A:=by intro zz;refine ZkR ?_;refine ZkS ?_;exact zz.out):A:=k ⟨h⟩
theorem ZeL (h:B) (k:Zh B→A:=by intro zz;refine Zu ?_;refine Zef ?_;exact zz.out):A:=k ⟨h⟩
theorem ZeM (h:B) (k:Zh B→A:=by intro zz;refine Zd ?_;refine Zaj ?_;exact zz.out):A:=k ⟨h⟩
theorem ZeN (h:B) (k:Zh B→A:=by intro zz;refine Z7 ?_;refine ZB ?_;exact zz.out):A:=k ⟨h⟩
theorem ZkE (h:B) (k:Zh B→A:=by intro zz;refine Zgr ?_;refine Zhc ?_;exact zz.out):A:=k ⟨h⟩
theorem ZeO (h:B) (k:Zh B→A:=by intro zz;refine ZaR ?_;refine Zie ?_;exact zz.out):A:=k ⟨h⟩
theorem ZeP (h:B) (k:Zh B→A:=by intro zz;refine Zn ?_;refine ZkT ?_;exact zz.out):A:=k ⟨h⟩
theorem ZeQ (h:B) (k:Zh B→A:=by intro zz;refine Zd ?_;refine ZkU ?_;exact zz.out):A:=k ⟨h⟩
theorem ZkF (h:B) (k:Zh B→A:=by intro zz;refine Zaq ?_;refine Zh8 ?_;exact zz.out):A:=k ⟨h⟩
theorem Zfw (h:B) (k:Zh B→A:=by intro zz;refine Zbt ?_;refine ZR ?_;exact zz.out):A:=k ⟨h⟩
theorem Zfx (h:B) (k:Zh B→A:=by intro zz;refine Zg ?_;refine ZG ?_;exact zz.out):A:=k ⟨h⟩
theorem Zfy (h:B) (k:Zh B→A:=by intro zz;refine Zf ?_;refine ZaC ?_;exact zz.out):A:=k ⟨h⟩
theorem Zfz (h:B) (k:Zh B→A:=by intro zz;refine Zfj ?_;refine ZkV ?_;exact zz.out):A:=k ⟨h⟩
theorem ZfA (h:B) (k:Zh B→A:=by intro zz;refine ZaZ ?_;refine Zb ?_;exact zz.out):A:=k ⟨h⟩
theorem ZfB (h:B) (k:Zh B→A:=by intro zz;refine Zr ?_;refine Zdk ?_;exact zz.out):A:=k ⟨h⟩
theorem ZfC (h:B) (k:Zh B→A:=by intro zz;refine ZS ?_;refine Zi0 ?_;exact zz.out):A:=k ⟨h⟩
theorem ZfD (h:B) (k:Zh B→A:=by intro zz;refine Zz ?_;refine Zt ?_;exact zz.out):A:=k ⟨h⟩
theorem ZfE (h:B) (k:Zh B→A:=by intro zz;refine Zz ?_;refine Zo ?_;exact zz.out):A:=k ⟨h⟩
theorem ZfF (h:B) (k:Zh B→A:=by intro zz;refine ZeR ?_;refine Zaf ?_;exact zz.out):A:=k ⟨h⟩
theorem ZfG (h:B) (k:Zh B→A:=by intro zz;refine ZH ?_;refine Zs ?_;exact zz.out):A:=k ⟨h⟩
theorem ZfH (h:B) (k:Zh B→A:=by intro zz;refine ZQ ?_;refine Zdk ?_;exact zz.out):A:=k ⟨h⟩
theorem ZfI (h:B) (k:Zh B→A:=by intro zz;refine Zfu ?_;refine Zq ?_;exact zz.out):A:=k ⟨h⟩
theorem ZfJ (h:B) (k:Zh B→A:=by intro zz;refine Z0 ?_;refine ZiS ?_;exact zz.out):A:=k ⟨h⟩
theorem ZfK (h:B) (k:Zh B→A:=by intro zz;refine Zhf ?_;refine Zai ?_;exact zz.out):A:=k ⟨h⟩
theorem ZfL (h:B) (k:Zh B→A:=by intro zz;refine Zds ?_;refine Zam ?_;exact zz.out):A:=k ⟨h⟩
theorem ZfM (h:B) (k:Zh B→A:=by intro zz;refine ZkD ?_;refine Zi1 ?_;exact zz.out):A:=k ⟨h⟩
theorem ZfN (h:B) (k:Zh B→A:=by intro zz;refine Zbg ?_;refine Zc ?_;exact zz.out):A:=k ⟨h⟩
theorem ZfO (h:B) (k:Zh B→A:=by intro zz;refine ZbH ?_;refine Zdt ?_;exact zz.out):A:=k ⟨h⟩
theorem ZfP (h:B) (k:Zh B→A:=by intro zz;refine Zb ?_;refine Za3 ?_;exact zz.out):A:=k ⟨h⟩
theorem ZfQ (h:B) (k:Zh B→A:=by intro zz;refine Zih ?_;refine Zhq ?_;exact zz.out):A:=k ⟨h⟩
theorem ZfR (h:B) (k:Zh B→A:=by intro zz;refine Zeg ?_;refine ZS ?_;exact zz.out):A:=k ⟨h⟩
theorem ZfS (h:B) (k:Zh B→A:=by intro zz;refine Zay ?_;refine Zj ?_;exact zz.out):A:=k ⟨h⟩
theorem ZfT (h:B) (k:Zh B→A:=by intro zz;refine ZcR ?_;refine Zkt ?_;refine Zck ?_;exact zz.out):A:=k ⟨h⟩
theorem ZfU (h:B) (k:Zh B→A:=by intro zz;refine Zbt ?_;refine Zck ?_;exact zz.out):A:=k ⟨h⟩
theorem ZfV (h:B) (k:Zh B→A:=by intro zz;refine Z5 ?_;refine Zi2 ?_;exact zz.out):A:=k ⟨h⟩
theorem ZfW (h:B) (k:Zh B→A:=by intro zz;refine Zdg ?_;refine ZeU ?_;exact zz.out):A:=k ⟨h⟩
theorem ZfX (h:B) (k:Zh B→A:=by intro zz;refine Zdi ?_;refine Zif ?_;refine ZC ?_;exact zz.out):A:=k ⟨h⟩
theorem ZfY (h:B) (k:Zh B→A:=by intro zz;refine Zr ?_;refine Zt ?_;exact zz.out):A:=k ⟨h⟩
theorem ZfZ (h:B) (k:Zh B→A:=by intro zz;refine Zhh ?_;refine ZY ?_;exact zz.out):A:=k ⟨h⟩
theorem Zf0 (h:B) (k:Zh B→A:=by intro zz;refine Zkx ?_;refine Zkx ?_;exact zz.out):A:=k ⟨h⟩
theorem Zf1 (h:B) (k:Zh B→A:=by intro zz;refine Zfv ?_;refine Zfh ?_;exact zz.out):A:=k ⟨h⟩
theorem Zf2 (h:B) (k:Zh B→A:=by intro zz;refine Zat ?_;refine Zm ?_;exact zz.out):A:=k ⟨h⟩
theorem Zf3 (h:B) (k:Zh B→A:=by intro zz;refine ZkW ?_;refine Zdr ?_;exact zz.out):A:=k ⟨h⟩
theorem Zf4 (h:B) (k:Zh B→A:=by intro zz;refine Zi3 ?_;refine Zff ?_;exact zz.out):A:=k ⟨h⟩
theorem Zf5 (h:B) (k:Zh B→A:=by intro zz;refine Zhg ?_;refine Zii ?_;exact zz.out):A:=k ⟨h⟩
theorem Zf6 (h:B) (k:Zh B→A:=by intro zz;refine ZF ?_;refine ZbJ ?_;exact zz.out):A:=k ⟨h⟩
theorem Zf7 (h:B) (k:Zh B→A:=by intro zz;refine Ze ?_;refine Zgs ?_;exact zz.out):A:=k ⟨h⟩
theorem Zf8 (h:B) (k:Zh B→A:=by intro zz;refine Zcm ?_;refine Zft ?_;exact zz.out):A:=k ⟨h⟩
theorem Zf9 (h:B) (k:Zh B→A:=by intro zz;refine Zhd ?_;refine ZkX ?_;exact zz.out):A:=k ⟨h⟩
theorem Zga (h:B) (k:Zh B→A:=by intro zz;refine ZkY ?_;refine ZkZ ?_;refine Zk0 ?_;refine Zk1 ?_;exact zz.out):A:=k ⟨h⟩
theorem Zgb (h:B) (k:Zh B→A:=by intro zz;refine Zij ?_;refine Zfs ?_;exact zz.out):A:=k ⟨h⟩
theorem Zgc (h:B) (k:Zh B→A:=by intro zz;refine Zg5 ?_;refine Zg5 ?_;exact zz.out):A:=k ⟨h⟩
theorem Zgd (h:B) (k:Zh B→A:=by intro zz;refine Z7 ?_;refine Zh1 ?_;exact zz.out):A:=k ⟨h⟩
theorem Zge (h:B) (k:Zh B→A:=by intro zz;refine ZkE ?_;refine Zgr ?_;exact zz.out):A:=k ⟨h⟩
theorem Zgf (h:B) (k:Zh B→A:=by intro zz;refine Zj ?_;refine Zk2 ?_;exact zz.out):A:=k ⟨h⟩
theorem Zgg (h:B) (k:Zh B→A:=by intro zz;refine ZeV ?_;refine Zc ?_;exact zz.out):A:=k ⟨h⟩
theorem Zgh (h:B) (k:Zh B→A:=by intro zz;refine Zcl ?_;refine Zhj ?_;exact zz.out):A:=k ⟨h⟩
theorem Zgi (h:B) (k:Zh B→A:=by intro zz;refine Zu ?_;refine Zbb ?_;exact zz.out):A:=k ⟨h⟩
theorem Zgj (h:B) (k:Zh B→A:=by intro zz;refine Zg3 ?_;refine ZY ?_;exact zz.out):A:=k ⟨h⟩
theorem Zgk (h:B) (k:Zh B→A:=by intro zz;refine Z8 ?_;refine Zde ?_;exact zz.out):A:=k ⟨h⟩
theorem Zgl (h:B) (k:Zh B→A:=by intro zz;refine ZcL ?_;refine Zc ?_;exact zz.out):A:=k ⟨h⟩
theorem Zgm (h:B) (k:Zh B→A:=by intro zz;refine Zbq ?_;refine ZF ?_;exact zz.out):A:=k ⟨h⟩
theorem Zgn (h:B) (k:Zh B→A:=by intro zz;refine Zhi ?_;refine Zk3 ?_;refine Zv ?_;refine Zhe ?_;refine Zi9 ?_;exact zz.out):A:=k ⟨h⟩
theorem Zgo (h:B) (k:Zh B→A:=by intro zz;refine ZkF ?_;refine Zh8 ?_;refine ZbT ?_;refine Zi4 ?_;refine Zae ?_;exact zz.out):A:=k ⟨h⟩
theorem Zgp (h:B) (k:Zh B→A:=by intro zz;refine Zeh ?_;refine Zi5 ?_;exact zz.out):A:=k ⟨h⟩
theorem Ya (k:A:=by omega):A:=k
theorem Yb (k:A:=by conv=>lhs;whnf):A:=k
theorem Yc (k:A:=by kernel_rfl):A:=k
theorem Yd (k:A:=by simp):A:=k
theorem Ye (k:A:=by assumption):A:=k
theorem Yf (k:A:=by decide):A:=k
theorem Yg (k:A:=by simp;omega):A:=k
theorem Yh (k:A:=by repeat constructor):A:=k
theorem Yi (k:A:=by rfl):A:=k
theorem Yj (k:A:=by simp only [Ts.nodes];omega):A:=k
theorem Yk (k:A:=by simp only [maxLen];omega):A:=k
theorem Yl (k:A:=by simp only [List.length_append,List.length_cons,List.length_nil];omega):A:=k
end Go.Proofs.YthliapbflkfdiacGreatDoor
