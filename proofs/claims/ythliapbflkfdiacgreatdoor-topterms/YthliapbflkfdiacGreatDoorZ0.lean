/-
  Steps that the walks repeat: each theorem's last premise is proved by its rows where it is used.
-/
import Derived.KernelRfl
namespace Go.Proofs.YthliapbflkfdiacGreatDoor
structure Zh (B:Prop):Prop where
 out:B
variable {A B:Prop}
theorem Zl (h:B) (k:Zh B→A:=by intro zz;refine QtS ?_;exact zz.out):A:=k ⟨h⟩
theorem Zb (h:B) (k:Zh B→A:=by intro zz;refine QtB ?_;exact zz.out):A:=k ⟨h⟩
theorem Zbk (h:B) (k:Zh B→A:=by intro zz;refine Qnx ?_;exact zz.out):A:=k ⟨h⟩
theorem Ze (h:B) (k:Zh B→A:=by intro zz;refine Qa (Qft (by conv=>lhs;whnf)) rfl ?_;exact zz.out):A:=k ⟨h⟩
theorem Zco (h:B) (k:Zh B→A:=by intro zz;refine Qa (Qgk (by conv=>lhs;whnf)) rfl ?_;exact zz.out):A:=k ⟨h⟩
theorem Zx (h:B) (k:Zh B→A:=by intro zz;refine QrC rfl rfl ?_;exact zz.out):A:=k ⟨h⟩
theorem Zb2 (h:B) (k:Zh B→A:=by intro zz;refine Qj2 rfl ?_;exact zz.out):A:=k ⟨h⟩
theorem Za (h:B) (k:Zh B→A:=by intro zz;refine ⟨_,rfl,?_⟩;exact zz.out):A:=k ⟨h⟩
theorem ZaF (h:B) (k:Zh B→A:=by intro zz;refine Qmo rfl ?_;exact zz.out):A:=k ⟨h⟩
theorem Za9 (h:B) (k:Zh B→A:=by intro zz;refine QrW ?_;exact zz.out):A:=k ⟨h⟩
theorem ZaO (h:B) (k:Zh B→A:=by intro zz;refine QtA rfl rfl rfl ?_;exact zz.out):A:=k ⟨h⟩
theorem ZE (h:B) (k:Zh B→A:=by intro zz;(first|refine Qa (Qe hS rfl rfl (by first|exact .head|exact .tail .head|exact .tail (.tail .head)|exact .tail (.tail (.tail .head))|exact .tail (.tail (.tail (.tail .head)))|exact .tail (.tail (.tail (.tail (.tail .head))))) (by repeat constructor)) rfl ?_|refine Qa (Qj rfl rfl (by first|assumption|exact hS.cell0 (by assumption)|exact Qu hS|exact Qv hS)) rfl ?_);exact zz.out):A:=k ⟨h⟩
theorem ZY (h:B) (k:Zh B→A:=by intro zz;refine Qa (Qbm rfl) rfl ?_;exact zz.out):A:=k ⟨h⟩
theorem Zau (h:B) (k:Zh B→A:=by intro zz;refine Qa (Qi (off:=0) rfl rfl) rfl ?_;exact zz.out):A:=k ⟨h⟩
theorem Zr (h:B) (k:Zh B→A:=by intro zz;(first|refine Qa (Qjx rfl (by conv=>lhs;whnf)) rfl ?_|refine Qa (Qjy rfl (by conv=>lhs;whnf)) rfl ?_);exact zz.out):A:=k ⟨h⟩
theorem Zc (h:B) (k:Zh B→A:=by intro zz;refine Qa2 hS rfl (by conv=>lhs;whnf) rfl rfl (by first|exact .head|exact .tail .head|exact .tail (.tail .head)|exact .tail (.tail (.tail .head))|exact .tail (.tail (.tail (.tail .head)))|exact .tail (.tail (.tail (.tail (.tail .head))))) (by repeat constructor) (by first|exact .head|exact .tail .head|exact .tail (.tail .head)|exact .tail (.tail (.tail .head))|exact .tail (.tail (.tail (.tail .head)))|exact .tail (.tail (.tail (.tail (.tail .head))))) ?_;exact zz.out):A:=k ⟨h⟩
theorem Zb3 (h:B) (k:Zh B→A:=by intro zz;refine QpT ?_;exact zz.out):A:=k ⟨h⟩
theorem Zs (h:B) (k:Zh B→A:=by intro zz;refine Qc rfl (fun _ hS=>Qft (by conv=>lhs;whnf)) rfl ?_;exact zz.out):A:=k ⟨h⟩
theorem ZJ (h:B) (k:Zh B→A:=by intro zz;(first|refine Qa (Qm7 rfl rfl (by omega)) rfl ?_|refine Qa (Qpr rfl rfl (by omega)) rfl ?_|refine Qa (rfl) rfl ?_);exact zz.out):A:=k ⟨h⟩
theorem Zi (h:B) (k:Zh B→A:=by intro zz;refine QbW (Qek (by kernel_rfl) (QuD (by conv=>lhs;whnf) (by conv=>lhs;whnf))) rfl ?_;exact zz.out):A:=k ⟨h⟩
theorem Zq (h:B) (k:Zh B→A:=by intro zz;(first|refine Qa (Qbw rfl rfl) rfl ?_|refine Qa (Qgj rfl rfl (by first|assumption|omega)) rfl ?_|refine Qa (Qe0 rfl rfl (by omega)) rfl ?_|refine Qa (rfl) rfl ?_);exact zz.out):A:=k ⟨h⟩
theorem Zy (h:B) (k:Zh B→A:=by intro zz;refine Qa (Qdj rfl rfl rfl) rfl ?_;exact zz.out):A:=k ⟨h⟩
theorem ZM (h:B) (k:Zh B→A:=by intro zz;refine Qa (Qi (off:=1) rfl rfl) rfl ?_;exact zz.out):A:=k ⟨h⟩
theorem Zfi (h:B) (k:Zh B→A:=by intro zz;refine Qa (QeY rfl rfl) rfl ?_;exact zz.out):A:=k ⟨h⟩
theorem ZB (h:B) (k:Zh B→A:=by intro zz;refine Qa (QqT rfl rfl (by omega) (by omega)) rfl ?_;exact zz.out):A:=k ⟨h⟩
theorem Zj (h:B) (k:Zh B→A:=by intro zz;refine QbW (Qek (by kernel_rfl) (QoZ (by conv=>lhs;whnf))) rfl ?_;exact zz.out):A:=k ⟨h⟩
theorem Zaa (h:B) (k:Zh B→A:=by intro zz;refine Qc rfl (fun _ hS=>Qbm rfl) rfl ?_;exact zz.out):A:=k ⟨h⟩
theorem Zav (h:B) (k:Zh B→A:=by intro zz;refine Qa (rfl) rfl ?_;exact zz.out):A:=k ⟨h⟩
theorem Zaw (h:B) (k:Zh B→A:=by intro zz;refine Qvf hS rfl rfl ?_;exact zz.out):A:=k ⟨h⟩
theorem ZF (h:B) (k:Zh B→A:=by intro zz;refine Qu9 ?_;exact zz.out):A:=k ⟨h⟩
theorem Zam (h:B) (k:Zh B→A:=by intro zz;refine Qmr ?_;exact zz.out):A:=k ⟨h⟩
theorem Zt (h:B) (k:Zh B→A:=by intro zz;(first|refine Qa (QdQ rfl rfl) rfl ?_|refine Qa (Qpq rfl rfl (by first|assumption|omega)) rfl ?_|refine Qa (Qm6 rfl rfl (by omega)) rfl ?_|refine Qa (rfl) rfl ?_);exact zz.out):A:=k ⟨h⟩
theorem Zan (h:B) (k:Zh B→A:=by intro zz;refine Qa (Qi (off:=2) rfl rfl) rfl ?_;exact zz.out):A:=k ⟨h⟩
theorem Z5 (h:B) (k:Zh B→A:=by intro zz;refine Qil (by first|exact hS|exact hS.drop|exact hS.drop.drop|exact hS.drop.drop.drop|exact hS.unlearn|exact hS.unlearn.drop|exact hS.unlearn.drop.drop) ?_;exact zz.out):A:=k ⟨h⟩
theorem Zw (h:B) (k:Zh B→A:=by intro zz;refine Qd0 (cs:=[_,_,_,_]) hS rfl rfl rfl ?_;exact zz.out):A:=k ⟨h⟩
theorem ZaB (h:B) (k:Zh B→A:=by intro zz;refine Qtq rfl ?_;exact zz.out):A:=k ⟨h⟩
theorem ZbA (h:B) (k:Zh B→A:=by intro zz;refine QrX rfl ?_;exact zz.out):A:=k ⟨h⟩
theorem ZA (h:B) (k:Zh B→A:=by intro zz;refine Q6 hS rfl (by conv=>lhs;whnf) rfl rfl (by first|exact .head|exact .tail .head|exact .tail (.tail .head)|exact .tail (.tail (.tail .head))|exact .tail (.tail (.tail (.tail .head)))|exact .tail (.tail (.tail (.tail (.tail .head))))) (by repeat constructor) (by first|exact .head|exact .tail .head|exact .tail (.tail .head)|exact .tail (.tail (.tail .head))|exact .tail (.tail (.tail (.tail .head)))|exact .tail (.tail (.tail (.tail (.tail .head))))) ?_;exact zz.out):A:=k ⟨h⟩
theorem ZaC (h:B) (k:Zh B→A:=by intro zz;refine Qc rfl (fun _ hS=>Qi (off:=0) rfl rfl) rfl ?_;exact zz.out):A:=k ⟨h⟩
theorem ZN (h:B) (k:Zh B→A:=by intro zz;(first|refine Qa (Qe hS rfl rfl (by first|exact .head|exact .tail .head|exact .tail (.tail .head)|exact .tail (.tail (.tail .head))|exact .tail (.tail (.tail (.tail .head)))|exact .tail (.tail (.tail (.tail (.tail .head))))) (by repeat constructor)) rfl ?_|refine Qa (Qj rfl rfl (by first|assumption|exact (hcc _ hS).1|exact (hcc _ hS).2.1|exact (hcc _ hS).2.2|exact hS.cell0 (by assumption)|exact Qu hS|exact Qv hS)) rfl ?_);exact zz.out):A:=k ⟨h⟩
theorem Zp (h:B) (k:Zh B→A:=by intro zz;refine Qva rfl ?_;exact zz.out):A:=k ⟨h⟩
theorem Zaf (h:B) (k:Zh B→A:=by intro zz;(first|refine Qa (Qpt rfl rfl (by assumption)) rfl ?_|refine Qa (Qpu rfl rfl (by assumption)) rfl ?_|refine Qa (Qnb rfl rfl) rfl ?_|refine Qa (rfl) rfl ?_);exact zz.out):A:=k ⟨h⟩
theorem Zba (h:B) (k:Zh B→A:=by intro zz;refine Qa (Qi (off:=3) rfl rfl) rfl ?_;exact zz.out):A:=k ⟨h⟩
theorem ZK (h:B) (k:Zh B→A:=by intro zz;refine Qa (QU (sz:=1) rfl rfl rfl rfl (by omega) (by omega)) rfl ?_;exact zz.out):A:=k ⟨h⟩
theorem Zao (h:B) (k:Zh B→A:=by intro zz;(first|refine Qa (Qh0 rfl rfl (by omega)) rfl ?_|refine Qa (QjB rfl rfl (by omega)) rfl ?_|refine Qa (rfl) rfl ?_);exact zz.out):A:=k ⟨h⟩
theorem Zax (h:B) (k:Zh B→A:=by intro zz;(first|refine Qc rfl (fun _ hS=>Qe hS rfl rfl (by first|exact .head|exact .tail .head|exact .tail (.tail .head)|exact .tail (.tail (.tail .head))|exact .tail (.tail (.tail (.tail .head)))|exact .tail (.tail (.tail (.tail (.tail .head))))) (by repeat constructor)) rfl ?_|refine Qc rfl (fun _ hS=>Qj rfl rfl (by first|assumption|exact hS.cell0 (by assumption)|exact Qu hS|exact Qv hS)) rfl ?_);exact zz.out):A:=k ⟨h⟩
theorem Zcp (h:B) (k:Zh B→A:=by intro zz;refine Qc rfl (fun _ hS=>Qgk (by conv=>lhs;whnf)) rfl ?_;exact zz.out):A:=k ⟨h⟩
theorem Zfj (h:B) (k:Zh B→A:=by intro zz;(first|refine Qa (Qe hS rfl rfl (by first|exact .head|exact .tail .head|exact .tail (.tail .head)|exact .tail (.tail (.tail .head))|exact .tail (.tail (.tail (.tail .head)))|exact .tail (.tail (.tail (.tail (.tail .head))))) (by repeat constructor)) rfl ?_|refine Qa (Qj rfl rfl (by first|assumption|exact (hcA _ hS).1|exact (hcA _ hS).2.1|exact (hcA _ hS).2.2.1|exact (hcA _ hS).2.2.2|exact (hcB _ hS).1|exact (hcB _ hS).2.1|exact (hcB _ hS).2.2.1|exact (hcB _ hS).2.2.2|exact hS.cell0 (by assumption)|exact Qu hS|exact Qv hS)) rfl ?_);exact zz.out):A:=k ⟨h⟩
theorem Zz (h:B) (k:Zh B→A:=by intro zz;refine QbW (Qek (by kernel_rfl) (QuC (by conv=>lhs;whnf) (by conv=>lhs;whnf) (by conv=>lhs;whnf))) rfl ?_;exact zz.out):A:=k ⟨h⟩
theorem ZcO (h:B) (k:Zh B→A:=by intro zz;refine Qtp ?_;exact zz.out):A:=k ⟨h⟩
theorem Zag (h:B) (k:Zh B→A:=by intro zz;refine Qa (QU (sz:=3) rfl rfl rfl rfl (by omega) (by omega)) rfl ?_;exact zz.out):A:=k ⟨h⟩
theorem Z6 (h:B) (k:Zh B→A:=by intro zz;(first|refine Qa (Qh1 rfl rfl (by omega)) rfl ?_|refine Qa (QjC rfl rfl (by omega)) rfl ?_|refine Qa (rfl) rfl ?_);exact zz.out):A:=k ⟨h⟩
theorem Zap (h:B) (k:Zh B→A:=by intro zz;(first|refine Qa (Qb (k:=2) hS rfl rfl rfl (by first|exact .head|exact .tail .head|exact .tail (.tail .head)|exact .tail (.tail (.tail .head))|exact .tail (.tail (.tail (.tail .head)))|exact .tail (.tail (.tail (.tail (.tail .head))))) (by repeat constructor)) rfl ?_|refine Qa (Qb (k:=2) hS rfl rfl rfl (by first|exact .head|exact .tail .head|exact .tail (.tail .head)|exact .tail (.tail (.tail .head))|exact .tail (.tail (.tail (.tail .head)))|exact .tail (.tail (.tail (.tail (.tail .head))))) (by assumption)) rfl ?_|refine Qa (QaO rfl rfl rfl (by first|assumption|exact hS.cell0 (by assumption)) (by first|assumption|exact hS.cell0 (by assumption))) rfl ?_);exact zz.out):A:=k ⟨h⟩
theorem Zcq (h:B) (k:Zh B→A:=by intro zz;refine Qc rfl (fun _ hS=>Qi (off:=1) rfl rfl) rfl ?_;exact zz.out):A:=k ⟨h⟩
theorem Zaq (h:B) (k:Zh B→A:=by intro zz;refine Qd0 (cs:=[_,_,_]) hS rfl rfl rfl ?_;exact zz.out):A:=k ⟨h⟩
theorem Zfk (h:B) (k:Zh B→A:=by intro zz;(first|refine Qc rfl (fun _ hS=>Qe hS rfl rfl (by first|exact .head|exact .tail .head|exact .tail (.tail .head)|exact .tail (.tail (.tail .head))|exact .tail (.tail (.tail (.tail .head)))|exact .tail (.tail (.tail (.tail (.tail .head))))) (by repeat constructor)) rfl ?_|refine Qc rfl (fun _ hS=>Qj rfl rfl (by first|assumption|exact (hcell _ hS).1|exact (hcell _ hS).2.1|exact (hcell _ hS).2.2|exact hS.cell0 (by assumption)|exact Qu hS|exact Qv hS)) rfl ?_);exact zz.out):A:=k ⟨h⟩
theorem Zbl (h:B) (k:Zh B→A:=by intro zz;(first|refine Qa (QqR rfl rfl (by omega) (by omega)) rfl ?_|refine Qa (Qjv rfl rfl) rfl ?_);exact zz.out):A:=k ⟨h⟩
theorem ZaG (h:B) (k:Zh B→A:=by intro zz;refine QaW (by first|exact hS|exact hS.drop|exact hS.drop.drop|exact hS.drop.drop.drop|exact hS.unlearn|exact hS.unlearn.drop|exact hS.unlearn.drop.drop|exact hS.forget (by assumption)|exact hS.drop.forget (by assumption)) ?_;exact zz.out):A:=k ⟨h⟩
theorem Zfl (h:B) (k:Zh B→A:=by intro zz;refine Qc rfl (fun _ hS=>QeY rfl rfl) rfl ?_;exact zz.out):A:=k ⟨h⟩
theorem Zie (h:B) (k:Zh B→A:=by intro zz;refine Calls.mono (Qgs y _ hok.bm hry hS (by first|exact .refl _|exact List.perm_append_comm_assoc [_] [_,_] _|exact List.perm_append_comm_assoc [_,_] [_,_] _)) ?_;exact zz.out):A:=k ⟨h⟩
theorem Zab (h:B) (k:Zh B→A:=by intro zz;(first|refine Qa (Qb (k:=4) hS rfl rfl rfl (by first|exact .head|exact .tail .head|exact .tail (.tail .head)|exact .tail (.tail (.tail .head))|exact .tail (.tail (.tail (.tail .head)))|exact .tail (.tail (.tail (.tail (.tail .head))))) (by repeat constructor)) rfl ?_|refine Qa (Qb (k:=4) hS rfl rfl rfl (by first|exact .head|exact .tail .head|exact .tail (.tail .head)|exact .tail (.tail (.tail .head))|exact .tail (.tail (.tail (.tail .head)))|exact .tail (.tail (.tail (.tail (.tail .head))))) (by assumption)) rfl ?_|refine Qa (Qaw rfl rfl rfl (by first|assumption|exact hS.cell0 (by assumption)) (by first|assumption|exact hS.cell0 (by assumption)) (by first|assumption|exact hS.cell0 (by assumption)) (by first|assumption|exact hS.cell0 (by assumption))) rfl ?_);exact zz.out):A:=k ⟨h⟩
theorem Zbb (h:B) (k:Zh B→A:=by intro zz;refine Qd0 (cs:=[_,_]) hS rfl rfl rfl ?_;exact zz.out):A:=k ⟨h⟩
theorem Zb4 (h:B) (k:Zh B→A:=by intro zz;refine Qa (QU (sz:=4) rfl rfl rfl rfl (by omega) (by omega)) rfl ?_;exact zz.out):A:=k ⟨h⟩
theorem ZaP (h:B) (k:Zh B→A:=by intro zz;refine Qw rfl (fun _ hS=>Qft (by conv=>lhs;whnf)) rfl ?_;exact zz.out):A:=k ⟨h⟩
theorem Zdw (h:B) (k:Zh B→A:=by intro zz;(first|refine Qa (Qe hS rfl rfl (by first|exact .head|exact .tail .head|exact .tail (.tail .head)|exact .tail (.tail (.tail .head))|exact .tail (.tail (.tail (.tail .head)))|exact .tail (.tail (.tail (.tail (.tail .head))))) (by repeat constructor)) rfl ?_|refine Qa (Qj rfl rfl (by first|assumption|exact (hpc _ hS).1|exact (hpc _ hS).2.1|exact (hpc _ hS).2.2.1|exact (hpc _ hS).2.2.2.1|exact (hpc _ hS).2.2.2.2.1|exact (hpc _ hS).2.2.2.2.2|exact hS.cell0 (by assumption)|exact Qu hS|exact Qv hS)) rfl ?_);exact zz.out):A:=k ⟨h⟩
theorem Zb5 (h:B) (k:Zh B→A:=by intro zz;refine Qc rfl (fun _ hS=>Qi (off:=2) rfl rfl) rfl ?_;exact zz.out):A:=k ⟨h⟩
theorem ZeE (h:B) (k:Zh B→A:=by intro zz;(first|refine Qa (Qe hS rfl rfl (by first|exact .head|exact .tail .head|exact .tail (.tail .head)|exact .tail (.tail (.tail .head))|exact .tail (.tail (.tail (.tail .head)))|exact .tail (.tail (.tail (.tail (.tail .head))))) (by repeat constructor)) rfl ?_|refine Qa (Qj rfl rfl (by first|assumption|exact hpa _ hS|exact hS.cell0 (by assumption)|exact Qu hS|exact Qv hS)) rfl ?_);exact zz.out):A:=k ⟨h⟩
theorem Zbm (h:B) (k:Zh B→A:=by intro zz;refine Qc rfl (fun _ hS=>QU (sz:=3) rfl rfl rfl rfl (by omega) (by omega)) rfl ?_;exact zz.out):A:=k ⟨h⟩
theorem Zfm (h:B) (k:Zh B→A:=by intro zz;refine Qd Tryz.func186 rfl (by conv=>lhs;whnf) ?_;exact zz.out):A:=k ⟨h⟩
theorem ZaQ (h:B) (k:Zh B→A:=by intro zz;refine QaW (by first|exact hS.bare1|exact hS.drop.bare1|exact hS.drop.drop.bare1) ?_;exact zz.out):A:=k ⟨h⟩
theorem ZaZ (h:B) (k:Zh B→A:=by intro zz;refine QaB (cells:=[_]) hS (.cons (by conv=>lhs;whnf) .nil) rfl rfl ?_;exact zz.out):A:=k ⟨h⟩
theorem Zbc (h:B) (k:Zh B→A:=by intro zz;refine Qc rfl (fun _ hS=>Qdj rfl rfl rfl) rfl ?_;exact zz.out):A:=k ⟨h⟩
theorem Zbd (h:B) (k:Zh B→A:=by intro zz;(first|refine Qa (Qm8 rfl rfl (by omega)) rfl ?_|refine Qa (Qps rfl rfl (by omega)) rfl ?_|refine Qa (rfl) rfl ?_);exact zz.out):A:=k ⟨h⟩
theorem Zbe (h:B) (k:Zh B→A:=by intro zz;(first|refine Qa (Qjz rfl rfl (by assumption)) rfl ?_|refine Qa (QjA rfl rfl (by assumption)) rfl ?_|refine Qa (QhX rfl rfl) rfl ?_|refine Qa (rfl) rfl ?_);exact zz.out):A:=k ⟨h⟩
theorem Zdx (h:B) (k:Zh B→A:=by intro zz;refine Qc rfl (fun _ hS=>Qi (off:=3) rfl rfl) rfl ?_;exact zz.out):A:=k ⟨h⟩
theorem ZcP (h:B) (k:Zh B→A:=by intro zz;refine QaW (by first|exact hS.only1|exact hS.drop.only1|exact hS.unlearn.only1|exact hS.unlearn.drop.only1) ?_;exact zz.out):A:=k ⟨h⟩
theorem Zbf (h:B) (k:Zh B→A:=by intro zz;refine Qil (by first|exact hS|exact hS.drop|exact hS.drop.drop|exact hS.drop.drop.drop|exact hS.unlearn|exact hS.unlearn.drop|exact hS.unlearn.drop.drop|exact hS.forget hF9|exact hS.drop.forget hF9) ?_;exact zz.out):A:=k ⟨h⟩
theorem Zbn (h:B) (k:Zh B→A:=by intro zz;refine Qa (Qm9 rfl rfl rfl) rfl ?_;exact zz.out):A:=k ⟨h⟩
theorem Zif (h:B) (k:Zh B→A:=by intro zz;refine Qa (QH (cells:=[_,_,_,_]) .nil rfl) rfl ?_;exact zz.out):A:=k ⟨h⟩
theorem Zfn (h:B) (k:Zh B→A:=by intro zz;refine Qa (QH (cells:=[_,_,_,_]) (.cons (by conv=>lhs;whnf) (.cons (by conv=>lhs;whnf) .nil)) rfl) rfl ?_;exact zz.out):A:=k ⟨h⟩
theorem Zdy (h:B) (k:Zh B→A:=by intro zz;(first|refine Qa (Qe hS rfl rfl (by first|exact .head|exact .tail .head|exact .tail (.tail .head)|exact .tail (.tail (.tail .head))|exact .tail (.tail (.tail (.tail .head)))|exact .tail (.tail (.tail (.tail (.tail .head))))) (by repeat constructor)) rfl ?_|refine Qa (Qj rfl rfl (by first|assumption|exact hwc _ hS.ext|exact hS.cell0 (by assumption)|exact Qu hS|exact Qv hS)) rfl ?_);exact zz.out):A:=k ⟨h⟩
theorem Zdz (h:B) (k:Zh B→A:=by intro zz;refine Qa (Qi (off:=7) rfl rfl) rfl ?_;exact zz.out):A:=k ⟨h⟩
theorem ZdA (h:B) (k:Zh B→A:=by intro zz;(first|refine Qa (Qb (k:=2) hS rfl rfl rfl (by first|exact .head|exact .tail .head|exact .tail (.tail .head)|exact .tail (.tail (.tail .head))|exact .tail (.tail (.tail (.tail .head)))|exact .tail (.tail (.tail (.tail (.tail .head))))) (by repeat constructor)) rfl ?_|refine Qa (Qb (k:=2) hS rfl rfl rfl (by first|exact .head|exact .tail .head|exact .tail (.tail .head)|exact .tail (.tail (.tail .head))|exact .tail (.tail (.tail (.tail .head)))|exact .tail (.tail (.tail (.tail (.tail .head))))) (by assumption)) rfl ?_|refine Qa (QaO rfl rfl rfl (by first|assumption|exact hct _ hS|exact hS.cell0 (by assumption)) (by first|assumption|exact hct _ hS|exact hS.cell0 (by assumption))) rfl ?_);exact zz.out):A:=k ⟨h⟩
theorem ZbB (h:B) (k:Zh B→A:=by intro zz;refine Qa (Qi (off:=5) rfl rfl) rfl ?_;exact zz.out):A:=k ⟨h⟩
theorem ZbC (h:B) (k:Zh B→A:=by intro zz;refine Qc rfl (fun _ hS=>QU (sz:=4) rfl rfl rfl rfl (by omega) (by omega)) rfl ?_;exact zz.out):A:=k ⟨h⟩
theorem ZeF (h:B) (k:Zh B→A:=by intro zz;refine Qc rfl (fun _ hS=>Qi (off:=4) rfl rfl) rfl ?_;exact zz.out):A:=k ⟨h⟩
theorem ZbD (h:B) (k:Zh B→A:=by intro zz;refine QbW (Qek (by kernel_rfl) (QvV (by conv=>lhs;whnf) (by conv=>lhs;whnf) (by conv=>lhs;whnf) (by conv=>lhs;whnf))) rfl ?_;exact zz.out):A:=k ⟨h⟩
theorem ZeG (h:B) (k:Zh B→A:=by intro zz;refine Qw rfl (fun _ hS=>Qi (off:=0) rfl rfl) rfl ?_;exact zz.out):A:=k ⟨h⟩
theorem Zig (h:B) (k:Zh B→A:=by intro zz;refine Calls.mono (Qgs x _ hok.bm hrx hS (by first|exact .refl _|exact List.perm_append_comm_assoc [_] [_,_] _|exact List.perm_append_comm_assoc [_,_] [_,_] _)) ?_;exact zz.out):A:=k ⟨h⟩
theorem ZeH (h:B) (k:Zh B→A:=by intro zz;refine Qa (Qi (off:=8) rfl rfl) rfl ?_;exact zz.out):A:=k ⟨h⟩
theorem Zgf (h:B) (k:Zh B→A:=by intro zz;(first|refine Qa (Qb (k:=3) hS rfl rfl rfl (by first|exact .head|exact .tail .head|exact .tail (.tail .head)|exact .tail (.tail (.tail .head))|exact .tail (.tail (.tail (.tail .head)))|exact .tail (.tail (.tail (.tail (.tail .head))))) (by repeat constructor)) rfl ?_|refine Qa (Qb (k:=3) hS rfl rfl rfl (by first|exact .head|exact .tail .head|exact .tail (.tail .head)|exact .tail (.tail (.tail .head))|exact .tail (.tail (.tail (.tail .head)))|exact .tail (.tail (.tail (.tail (.tail .head))))) (by assumption)) rfl ?_|refine Qa (Qbb rfl rfl rfl (by first|assumption|exact (hcc _ hS).1|exact (hcc _ hS).2.1|exact (hcc _ hS).2.2|exact hS.cell0 (by assumption)) (by first|assumption|exact (hcc _ hS).1|exact (hcc _ hS).2.1|exact (hcc _ hS).2.2|exact hS.cell0 (by assumption)) (by first|assumption|exact (hcc _ hS).1|exact (hcc _ hS).2.1|exact (hcc _ hS).2.2|exact hS.cell0 (by assumption))) rfl ?_);exact zz.out):A:=k ⟨h⟩
theorem ZbE (h:B) (k:Zh B→A:=by intro zz;(first|refine Qa (Qe hS rfl rfl (by first|exact .head|exact .tail .head|exact .tail (.tail .head)|exact .tail (.tail (.tail .head))|exact .tail (.tail (.tail (.tail .head)))|exact .tail (.tail (.tail (.tail (.tail .head))))) (by repeat constructor)) rfl ?_|refine Qa (Qj rfl rfl (by first|assumption|exact hct _ hS|exact hS.cell0 (by assumption)|exact Qu hS|exact Qv hS)) rfl ?_);exact zz.out):A:=k ⟨h⟩
theorem ZbF (h:B) (k:Zh B→A:=by intro zz;refine QrB rfl rfl ?_;exact zz.out):A:=k ⟨h⟩
theorem ZbG (h:B) (k:Zh B→A:=by intro zz;refine Qw rfl (fun _ hS=>QeY rfl rfl) rfl ?_;exact zz.out):A:=k ⟨h⟩
theorem ZbH (h:B) (k:Zh B→A:=by intro zz;refine Qtr rfl rfl rfl rfl ?_;exact zz.out):A:=k ⟨h⟩
theorem Zb6 (h:B) (k:Zh B→A:=by intro zz;refine Qd Tryz.func113 rfl (by conv=>lhs;whnf) ?_;exact zz.out):A:=k ⟨h⟩
theorem Zih (h:B) (k:Zh B→A:=by intro zz;refine Qc8 (sz:=4) hS Tryz.func72 rfl rfl rfl rfl (by first|exact .head|exact .tail .head|exact .tail (.tail .head)|exact .tail (.tail (.tail .head))|exact .tail (.tail (.tail (.tail .head)))|exact .tail (.tail (.tail (.tail (.tail .head))))) (by repeat constructor) ?_;exact zz.out):A:=k ⟨h⟩
theorem Zb7 (h:B) (k:Zh B→A:=by intro zz;(first|refine Qa (Qb (k:=6) hS rfl rfl rfl (by first|exact .head|exact .tail .head|exact .tail (.tail .head)|exact .tail (.tail (.tail .head))|exact .tail (.tail (.tail (.tail .head)))|exact .tail (.tail (.tail (.tail (.tail .head))))) (by repeat constructor)) rfl ?_|refine Qa (Qb (k:=6) hS rfl rfl rfl (by first|exact .head|exact .tail .head|exact .tail (.tail .head)|exact .tail (.tail (.tail .head))|exact .tail (.tail (.tail (.tail .head)))|exact .tail (.tail (.tail (.tail (.tail .head))))) (by assumption)) rfl ?_|refine Qa (QhZ rfl rfl rfl (by first|assumption|exact hS.cell0 (by assumption)) (by first|assumption|exact hS.cell0 (by assumption)) (by first|assumption|exact hS.cell0 (by assumption)) (by first|assumption|exact hS.cell0 (by assumption)) (by first|assumption|exact hS.cell0 (by assumption)) (by first|assumption|exact hS.cell0 (by assumption))) rfl ?_);exact zz.out):A:=k ⟨h⟩
theorem Zb8 (h:B) (k:Zh B→A:=by intro zz;(first|refine Qc rfl (fun _ hS=>Qb (k:=4) hS rfl rfl rfl (by first|exact .head|exact .tail .head|exact .tail (.tail .head)|exact .tail (.tail (.tail .head))|exact .tail (.tail (.tail (.tail .head)))|exact .tail (.tail (.tail (.tail (.tail .head))))) (by repeat constructor)) rfl ?_|refine Qc rfl (fun _ hS=>Qb (k:=4) hS rfl rfl rfl (by first|exact .head|exact .tail .head|exact .tail (.tail .head)|exact .tail (.tail (.tail .head))|exact .tail (.tail (.tail (.tail .head)))|exact .tail (.tail (.tail (.tail (.tail .head))))) (by assumption)) rfl ?_|refine Qc rfl (fun _ hS=>Qaw rfl rfl rfl (by first|assumption|exact hS.cell0 (by assumption)) (by first|assumption|exact hS.cell0 (by assumption)) (by first|assumption|exact hS.cell0 (by assumption)) (by first|assumption|exact hS.cell0 (by assumption))) rfl ?_);exact zz.out):A:=k ⟨h⟩
theorem Zb9 (h:B) (k:Zh B→A:=by intro zz;refine Qc rfl (fun _ hS=>Qi (off:=7) rfl rfl) rfl ?_;exact zz.out):A:=k ⟨h⟩
theorem Zca (h:B) (k:Zh B→A:=by intro zz;(first|refine Qa (Qb (k:=2) hS rfl rfl rfl (by first|exact .head|exact .tail .head|exact .tail (.tail .head)|exact .tail (.tail (.tail .head))|exact .tail (.tail (.tail (.tail .head)))|exact .tail (.tail (.tail (.tail (.tail .head))))) (by repeat constructor)) rfl ?_|refine Qa (Qb (k:=2) hS rfl rfl rfl (by first|exact .head|exact .tail .head|exact .tail (.tail .head)|exact .tail (.tail (.tail .head))|exact .tail (.tail (.tail (.tail .head)))|exact .tail (.tail (.tail (.tail (.tail .head))))) (by assumption)) rfl ?_|refine Qa (QaO rfl rfl rfl (by first|assumption|exact (hcc _ hS).1|exact (hcc _ hS).2.1|exact (hcc _ hS).2.2|exact hS.cell0 (by assumption)) (by first|assumption|exact (hcc _ hS).1|exact (hcc _ hS).2.1|exact (hcc _ hS).2.2|exact hS.cell0 (by assumption))) rfl ?_);exact zz.out):A:=k ⟨h⟩
theorem Zcr (h:B) (k:Zh B→A:=by intro zz;refine Qa (hop _ _ hr) hd ?_;exact zz.out):A:=k ⟨h⟩
theorem Zcs (h:B) (k:Zh B→A:=by intro zz;refine Qa (Qkr rfl rfl rfl (by omega) (by first|rfl|assumption)) rfl ?_;exact zz.out):A:=k ⟨h⟩
theorem Zct (h:B) (k:Zh B→A:=by intro zz;(first|refine Qa (Qe hS rfl rfl (by first|exact .head|exact .tail .head|exact .tail (.tail .head)|exact .tail (.tail (.tail .head))|exact .tail (.tail (.tail (.tail .head)))|exact .tail (.tail (.tail (.tail (.tail .head))))) (by repeat constructor)) rfl ?_|refine Qa (Qj rfl rfl (by first|assumption|exact hwl _ hS|exact (hcc _ hS).1|exact (hcc _ hS).2.1|exact (hcc _ hS).2.2|exact hS.cell0 (by assumption)|exact Qu hS|exact Qv hS)) rfl ?_);exact zz.out):A:=k ⟨h⟩
theorem Zcu (h:B) (k:Zh B→A:=by intro zz;refine Qil (by first|exact hS|exact hS.drop|exact hS.drop.drop|exact hS.drop.drop.drop|exact hS.unlearn|exact hS.unlearn.drop|exact hS.unlearn.drop.drop|exact hS.forget hF8|exact hS.drop.forget hF8|exact hS.forget (fun φ h=>hF9 φ (hF8 φ h))|exact hS.drop.forget (fun φ h=>hF9 φ (hF8 φ h))) ?_;exact zz.out):A:=k ⟨h⟩
theorem Zcv (h:B) (k:Zh B→A:=by intro zz;(first|refine Qa (Qb (k:=4) hS rfl rfl rfl (by first|exact .head|exact .tail .head|exact .tail (.tail .head)|exact .tail (.tail (.tail .head))|exact .tail (.tail (.tail (.tail .head)))|exact .tail (.tail (.tail (.tail (.tail .head))))) (by repeat constructor)) rfl ?_|refine Qa (Qb (k:=4) hS rfl rfl rfl (by first|exact .head|exact .tail .head|exact .tail (.tail .head)|exact .tail (.tail (.tail .head))|exact .tail (.tail (.tail (.tail .head)))|exact .tail (.tail (.tail (.tail (.tail .head))))) (by assumption)) rfl ?_|refine Qa (Qaw rfl rfl rfl (by first|assumption|exact (hcc _ hS).1|exact (hcc _ hS).2.1|exact (hcc _ hS).2.2.1|exact (hcc _ hS).2.2.2|exact hS.cell0 (by assumption)) (by first|assumption|exact (hcc _ hS).1|exact (hcc _ hS).2.1|exact (hcc _ hS).2.2.1|exact (hcc _ hS).2.2.2|exact hS.cell0 (by assumption)) (by first|assumption|exact (hcc _ hS).1|exact (hcc _ hS).2.1|exact (hcc _ hS).2.2.1|exact (hcc _ hS).2.2.2|exact hS.cell0 (by assumption)) (by first|assumption|exact (hcc _ hS).1|exact (hcc _ hS).2.1|exact (hcc _ hS).2.2.1|exact (hcc _ hS).2.2.2|exact hS.cell0 (by assumption))) rfl ?_);exact zz.out):A:=k ⟨h⟩
theorem Zcw (h:B) (k:Zh B→A:=by intro zz;refine Qa (Qi (off:=9) rfl rfl) rfl ?_;exact zz.out):A:=k ⟨h⟩
theorem ZcQ (h:B) (k:Zh B→A:=by intro zz;(first|refine Qa (Qh2 rfl rfl rfl) rfl ?_|refine Qa (Qi3 rfl rfl rfl) rfl ?_);exact zz.out):A:=k ⟨h⟩
theorem ZcR (h:B) (k:Zh B→A:=by intro zz;refine Calls.mono (QcP s 1 _ hS) ?_;exact zz.out):A:=k ⟨h⟩
theorem ZcS (h:B) (k:Zh B→A:=by intro zz;refine Qd0 (cs:=[_,_,_,_,_,_]) hS rfl rfl rfl ?_;exact zz.out):A:=k ⟨h⟩
theorem ZcT (h:B) (k:Zh B→A:=by intro zz;(first|refine Qc rfl (fun _ hS=>Qb (k:=4) hS rfl rfl rfl (by first|exact .head|exact .tail .head|exact .tail (.tail .head)|exact .tail (.tail (.tail .head))|exact .tail (.tail (.tail (.tail .head)))|exact .tail (.tail (.tail (.tail (.tail .head))))) (by repeat constructor)) rfl ?_|refine Qc rfl (fun _ hS=>Qb (k:=4) hS rfl rfl rfl (by first|exact .head|exact .tail .head|exact .tail (.tail .head)|exact .tail (.tail (.tail .head))|exact .tail (.tail (.tail (.tail .head)))|exact .tail (.tail (.tail (.tail (.tail .head))))) (by assumption)) rfl ?_|refine Qc rfl (fun _ hS=>Qaw rfl rfl rfl (by first|assumption|exact (hcA _ hS).1|exact (hcA _ hS).2.1|exact (hcA _ hS).2.2.1|exact (hcA _ hS).2.2.2|exact (hcB _ hS).1|exact (hcB _ hS).2.1|exact (hcB _ hS).2.2.1|exact (hcB _ hS).2.2.2|exact hS.cell0 (by assumption)) (by first|assumption|exact (hcA _ hS).1|exact (hcA _ hS).2.1|exact (hcA _ hS).2.2.1|exact (hcA _ hS).2.2.2|exact (hcB _ hS).1|exact (hcB _ hS).2.1|exact (hcB _ hS).2.2.1|exact (hcB _ hS).2.2.2|exact hS.cell0 (by assumption)) (by first|assumption|exact (hcA _ hS).1|exact (hcA _ hS).2.1|exact (hcA _ hS).2.2.1|exact (hcA _ hS).2.2.2|exact (hcB _ hS).1|exact (hcB _ hS).2.1|exact (hcB _ hS).2.2.1|exact (hcB _ hS).2.2.2|exact hS.cell0 (by assumption)) (by first|assumption|exact (hcA _ hS).1|exact (hcA _ hS).2.1|exact (hcA _ hS).2.2.1|exact (hcA _ hS).2.2.2|exact (hcB _ hS).1|exact (hcB _ hS).2.1|exact (hcB _ hS).2.2.1|exact (hcB _ hS).2.2.2|exact hS.cell0 (by assumption))) rfl ?_);exact zz.out):A:=k ⟨h⟩
theorem ZcU (h:B) (k:Zh B→A:=by intro zz;(first|refine Qa (Qb (k:=4) hS rfl rfl rfl (by first|exact .head|exact .tail .head|exact .tail (.tail .head)|exact .tail (.tail (.tail .head))|exact .tail (.tail (.tail (.tail .head)))|exact .tail (.tail (.tail (.tail (.tail .head))))) (by repeat constructor)) rfl ?_|refine Qa (Qb (k:=4) hS rfl rfl rfl (by first|exact .head|exact .tail .head|exact .tail (.tail .head)|exact .tail (.tail (.tail .head))|exact .tail (.tail (.tail (.tail .head)))|exact .tail (.tail (.tail (.tail (.tail .head))))) (by assumption)) rfl ?_|refine Qa (Qaw rfl rfl rfl (by first|assumption|exact (hcA _ hS).1|exact (hcA _ hS).2.1|exact (hcA _ hS).2.2.1|exact (hcA _ hS).2.2.2|exact (hcB _ hS).1|exact (hcB _ hS).2.1|exact (hcB _ hS).2.2.1|exact (hcB _ hS).2.2.2|exact hS.cell0 (by assumption)) (by first|assumption|exact (hcA _ hS).1|exact (hcA _ hS).2.1|exact (hcA _ hS).2.2.1|exact (hcA _ hS).2.2.2|exact (hcB _ hS).1|exact (hcB _ hS).2.1|exact (hcB _ hS).2.2.1|exact (hcB _ hS).2.2.2|exact hS.cell0 (by assumption)) (by first|assumption|exact (hcA _ hS).1|exact (hcA _ hS).2.1|exact (hcA _ hS).2.2.1|exact (hcA _ hS).2.2.2|exact (hcB _ hS).1|exact (hcB _ hS).2.1|exact (hcB _ hS).2.2.1|exact (hcB _ hS).2.2.2|exact hS.cell0 (by assumption)) (by first|assumption|exact (hcA _ hS).1|exact (hcA _ hS).2.1|exact (hcA _ hS).2.2.1|exact (hcA _ hS).2.2.2|exact (hcB _ hS).1|exact (hcB _ hS).2.1|exact (hcB _ hS).2.2.1|exact (hcB _ hS).2.2.2|exact hS.cell0 (by assumption))) rfl ?_);exact zz.out):A:=k ⟨h⟩
theorem ZcV (h:B) (k:Zh B→A:=by intro zz;(first|refine Qa (Qe hS rfl rfl (by first|exact .head|exact .tail .head|exact .tail (.tail .head)|exact .tail (.tail (.tail .head))|exact .tail (.tail (.tail (.tail .head)))|exact .tail (.tail (.tail (.tail (.tail .head))))) (by repeat constructor)) rfl ?_|refine Qa (Qj rfl rfl (by first|assumption|exact (QB hS (.tail _ (.tail _ (.tail _ (.head _)))) hX).1|exact (QB hS (.tail _ (.tail _ (.tail _ (.head _)))) hX).2.1|exact (QB hS (.tail _ (.tail _ (.tail _ (.head _)))) hX).2.2|exact hS.cell0 (by assumption)|exact Qu hS|exact Qv hS)) rfl ?_);exact zz.out):A:=k ⟨h⟩
theorem ZcW (h:B) (k:Zh B→A:=by intro zz;refine QaB (cells:=[_,_,_]) hS (.cons (by conv=>lhs;whnf) .nil) rfl rfl ?_;exact zz.out):A:=k ⟨h⟩
theorem Zii (h:B) (k:Zh B→A:=by intro zz;refine Qeu (sz:=2) hS Tryz.func155 rfl rfl (by conv=>lhs;whnf) (by conv=>lhs;whnf) rfl rfl (by first|exact .head|exact .tail .head|exact .tail (.tail .head)|exact .tail (.tail (.tail .head))|exact .tail (.tail (.tail (.tail .head)))|exact .tail (.tail (.tail (.tail (.tail .head))))) (by repeat constructor) ?_;exact zz.out):A:=k ⟨h⟩
theorem ZcX (h:B) (k:Zh B→A:=by intro zz;refine Qw rfl (fun _ hS=>Qgk (by conv=>lhs;whnf)) rfl ?_;exact zz.out):A:=k ⟨h⟩
theorem Zij (h:B) (k:Zh B→A:=by intro zz;refine Qc7 (sz:=4) hS Tryz.func143 rfl rfl (by conv=>lhs;whnf) rfl rfl (by first|exact .head|exact .tail .head|exact .tail (.tail .head)|exact .tail (.tail (.tail .head))|exact .tail (.tail (.tail (.tail .head)))|exact .tail (.tail (.tail (.tail (.tail .head))))) (by repeat constructor) ?_;exact zz.out):A:=k ⟨h⟩
theorem ZcY (h:B) (k:Zh B→A:=by intro zz;(first|refine Qa (Qe hS rfl rfl (by first|exact .head|exact .tail .head|exact .tail (.tail .head)|exact .tail (.tail (.tail .head))|exact .tail (.tail (.tail (.tail .head)))|exact .tail (.tail (.tail (.tail (.tail .head))))) (by repeat constructor)) rfl ?_|refine Qa (Qj rfl rfl (by first|assumption|exact (hll _ hS (by repeat constructor)).1|exact (hll _ hS (by repeat constructor)).2.1|exact (hll _ hS (by repeat constructor)).2.2|exact hS.cell0 (by assumption)|exact Qu hS|exact Qv hS)) rfl ?_);exact zz.out):A:=k ⟨h⟩
theorem ZgS (h:B) (k:Zh B→A:=by intro zz;refine Qq (St _ _ _ _) 10 ((0,true)::(1,true)::(2,true)::(3,true)::(4,true)::(5,true)::(6,true)::(7,true)::(8,true)::(9,true)::[]) (by kernel_rfl) (by kernel_rfl) (hS.drew) ?_;exact zz.out):A:=k ⟨h⟩
theorem ZcZ (h:B) (k:Zh B→A:=by intro zz;(first|refine Qa (Qe hS rfl rfl (by first|exact .head|exact .tail .head|exact .tail (.tail .head)|exact .tail (.tail (.tail .head))|exact .tail (.tail (.tail (.tail .head)))|exact .tail (.tail (.tail (.tail (.tail .head))))) (by repeat constructor)) rfl ?_|refine Qa (Qj rfl rfl (by first|assumption|exact hsv _ hS (.tail _ (.head _))|exact hll _ hS (by simp [hgl])|exact hS.cell0 (by assumption)|exact Qu hS|exact Qv hS)) rfl ?_);exact zz.out):A:=k ⟨h⟩
theorem Zik (h:B) (k:Zh B→A:=by intro zz;refine Qd Tryz.func69 rfl (by conv=>lhs;whnf) ?_;exact zz.out):A:=k ⟨h⟩
theorem ZdB (h:B) (k:Zh B→A:=by intro zz;refine Qd Tryz.func212 rfl (by conv=>lhs;whnf) ?_;exact zz.out):A:=k ⟨h⟩
theorem ZdC (h:B) (k:Zh B→A:=by intro zz;(first|refine Qc rfl (fun _ hS=>Qe hS rfl rfl (by first|exact .head|exact .tail .head|exact .tail (.tail .head)|exact .tail (.tail (.tail .head))|exact .tail (.tail (.tail (.tail .head)))|exact .tail (.tail (.tail (.tail (.tail .head))))) (by repeat constructor)) rfl ?_|refine Qc rfl (fun _ hS=>Qj rfl rfl (by first|assumption|exact (hcA _ hS).1|exact (hcA _ hS).2.1|exact (hcA _ hS).2.2.1|exact (hcA _ hS).2.2.2|exact (hcB _ hS).1|exact (hcB _ hS).2.1|exact (hcB _ hS).2.2.1|exact (hcB _ hS).2.2.2|exact hS.cell0 (by assumption)|exact Qu hS|exact Qv hS)) rfl ?_);exact zz.out):A:=k ⟨h⟩
theorem ZdD (h:B) (k:Zh B→A:=by intro zz;refine Qd Tryz.func180 rfl (by conv=>lhs;whnf) ?_;exact zz.out):A:=k ⟨h⟩
theorem ZdE (h:B) (k:Zh B→A:=by intro zz;refine Qq (St _ _ _ _) 9 ((0,true)::(1,true)::(2,true)::(3,true)::(4,true)::(5,true)::(6,true)::(7,true)::(8,true)::[]) (by kernel_rfl) (by kernel_rfl) (hS.drew) ?_;exact zz.out):A:=k ⟨h⟩
theorem ZdF (h:B) (k:Zh B→A:=by intro zz;refine Qc rfl (fun _ hS=>Qi (off:=5) rfl rfl) rfl ?_;exact zz.out):A:=k ⟨h⟩
theorem Zil (h:B) (k:Zh B→A:=by intro zz;refine Qw rfl (fun _ hS=>Qbm rfl) rfl ?_;exact zz.out):A:=k ⟨h⟩
theorem ZdG (h:B) (k:Zh B→A:=by intro zz;refine Qd Tryz.func76 rfl (by conv=>lhs;whnf) ?_;exact zz.out):A:=k ⟨h⟩
theorem Zim (h:B) (k:Zh B→A:=by intro zz;refine Calls.mono (QoI h A B c d _ (hS.und hH)) ?_;exact zz.out):A:=k ⟨h⟩
theorem ZdH (h:B) (k:Zh B→A:=by intro zz;(first|refine Qa (Qe hS rfl rfl (by first|exact .head|exact .tail .head|exact .tail (.tail .head)|exact .tail (.tail (.tail .head))|exact .tail (.tail (.tail (.tail .head)))|exact .tail (.tail (.tail (.tail (.tail .head))))) (by repeat constructor)) rfl ?_|refine Qa (Qj rfl rfl (by first|assumption|exact (hcc _ hS).1|exact (hcc _ hS).2.1|exact (hcc _ hS).2.2|exact hcb _ hS|exact hcs _ hS|exact hS.cell0 (by assumption)|exact Qu hS|exact Qv hS)) rfl ?_);exact zz.out):A:=k ⟨h⟩
theorem ZdI (h:B) (k:Zh B→A:=by intro zz;refine Qw rfl (fun _ hS=>QH (cells:=[_,_]) (.cons (by conv=>lhs;whnf) (.cons (by conv=>lhs;whnf) .nil)) rfl) rfl ?_;exact zz.out):A:=k ⟨h⟩
theorem ZdJ (h:B) (k:Zh B→A:=by intro zz;refine Qd Tryz.func196 rfl (by conv=>lhs;whnf) ?_;exact zz.out):A:=k ⟨h⟩
theorem ZdK (h:B) (k:Zh B→A:=by intro zz;refine Q6 hS rfl (by conv=>lhs;whnf) rfl rfl (.tail .head) (by rw [Nat.zero_add,Nat.mul_one];exact hput) (.tail .head) ?_;exact zz.out):A:=k ⟨h⟩
theorem ZdL (h:B) (k:Zh B→A:=by intro zz;(first|refine Qa (Qe hS rfl rfl (by first|exact .head|exact .tail .head|exact .tail (.tail .head)|exact .tail (.tail (.tail .head))|exact .tail (.tail (.tail (.tail .head)))|exact .tail (.tail (.tail (.tail (.tail .head))))) (by repeat constructor)) rfl ?_|refine Qa (Qj rfl rfl (by first|assumption|exact (hcc _ hS).1|exact (hcc _ hS).2.1|exact (hcc _ hS).2.2.1|exact (hcc _ hS).2.2.2|exact hS.cell0 (by assumption)|exact Qu hS|exact Qv hS)) rfl ?_);exact zz.out):A:=k ⟨h⟩
theorem ZdM (h:B) (k:Zh B→A:=by intro zz;refine Qc rfl (fun _ hS=>Qi (off:=9) rfl rfl) rfl ?_;exact zz.out):A:=k ⟨h⟩
theorem Zin (h:B) (k:Zh B→A:=by intro zz;(first|refine Qa (Qe hS rfl rfl (by first|exact .head|exact .tail .head|exact .tail (.tail .head)|exact .tail (.tail (.tail .head))|exact .tail (.tail (.tail (.tail .head)))|exact .tail (.tail (.tail (.tail (.tail .head))))) (by repeat constructor)) rfl ?_|refine Qa (Qj rfl rfl (by first|assumption|exact (hcell _ hS).1|exact (hcell _ hS).2.1|exact (hcell _ hS).2.2|exact hS.cell0 (by assumption)|exact Qu hS|exact Qv hS)) rfl ?_);exact zz.out):A:=k ⟨h⟩
theorem ZdN (h:B) (k:Zh B→A:=by intro zz;refine Qd Tryz.func58 rfl (by conv=>lhs;whnf) ?_;exact zz.out):A:=k ⟨h⟩
theorem ZdO (h:B) (k:Zh B→A:=by intro zz;refine QaS Tryz.func12 rfl (by conv=>lhs;whnf) (by conv=>lhs;whnf) ?_;exact zz.out):A:=k ⟨h⟩
theorem ZeI (h:B) (k:Zh B→A:=by intro zz;refine QaB (cells:=[_,_,_,_]) hS (.cons (by conv=>lhs;whnf) .nil) rfl rfl ?_;exact zz.out):A:=k ⟨h⟩
theorem ZeJ (h:B) (k:Zh B→A:=by intro zz;refine Qd Tryz.func119 rfl (by conv=>lhs;whnf) ?_;exact zz.out):A:=k ⟨h⟩
theorem ZeK (h:B) (k:Zh B→A:=by intro zz;refine Qh Tryz.func166 rfl Tryz.ntmps166 rfl ?_;exact zz.out):A:=k ⟨h⟩
theorem ZeL (h:B) (k:Zh B→A:=by intro zz;refine Qd Tryz.func166 rfl (by conv=>lhs;whnf) ?_;exact zz.out):A:=k ⟨h⟩
theorem ZeM (h:B) (k:Zh B→A:=by intro zz;refine QaB (cells:=[_,_]) hS (.cons (by conv=>lhs;whnf) .nil) rfl rfl ?_;exact zz.out):A:=k ⟨h⟩
theorem ZeN (h:B) (k:Zh B→A:=by intro zz;(first|refine Qc rfl (fun _ hS=>Qbw rfl rfl) rfl ?_|refine Qc rfl (fun _ hS=>Qgj rfl rfl (by first|assumption|omega)) rfl ?_|refine Qc rfl (fun _ hS=>Qe0 rfl rfl (by omega)) rfl ?_|refine Qc rfl (fun _ hS=>rfl) rfl ?_);exact zz.out):A:=k ⟨h⟩
theorem ZeO (h:B) (k:Zh B→A:=by intro zz;refine Qd Tryz.func238 rfl (by conv=>lhs;whnf) ?_;exact zz.out):A:=k ⟨h⟩
theorem ZeP (h:B) (k:Zh B→A:=by intro zz;refine Qd Tryz.func78 rfl (by conv=>lhs;whnf) ?_;exact zz.out):A:=k ⟨h⟩
theorem ZeQ (h:B) (k:Zh B→A:=by intro zz;refine Qc rfl (fun _ hS=>Qi (off:=6) rfl rfl) rfl ?_;exact zz.out):A:=k ⟨h⟩
theorem ZeR (h:B) (k:Zh B→A:=by intro zz;refine Qd Tryz.func124 rfl (by conv=>lhs;whnf) ?_;exact zz.out):A:=k ⟨h⟩
theorem ZeS (h:B) (k:Zh B→A:=by intro zz;refine Qa (Qi (off:=6) rfl rfl) rfl ?_;exact zz.out):A:=k ⟨h⟩
theorem ZeT (h:B) (k:Zh B→A:=by intro zz;refine Qd Tryz.func46 rfl (by conv=>lhs;whnf) ?_;exact zz.out):A:=k ⟨h⟩
theorem ZeU (h:B) (k:Zh B→A:=by intro zz;refine QaS Tryz.func26 rfl (by conv=>lhs;whnf) (by conv=>lhs;whnf) ?_;exact zz.out):A:=k ⟨h⟩
theorem ZeV (h:B) (k:Zh B→A:=by intro zz;refine QbW (QlI rfl (by kernel_rfl) (QoZ (by conv=>lhs;whnf))) rfl ?_;exact zz.out):A:=k ⟨h⟩
theorem ZeW (h:B) (k:Zh B→A:=by intro zz;(first|refine Qa (Qe hS rfl rfl (by first|exact .head|exact .tail .head|exact .tail (.tail .head)|exact .tail (.tail (.tail .head))|exact .tail (.tail (.tail (.tail .head)))|exact .tail (.tail (.tail (.tail (.tail .head))))) (by repeat constructor)) rfl ?_|refine Qa (Qj rfl rfl (by first|assumption|exact hct _ hS|exact hpa _ hS|exact hpb _ hS|exact hS.cell0 (by assumption)|exact Qu hS|exact Qv hS)) rfl ?_);exact zz.out):A:=k ⟨h⟩
theorem ZeX (h:B) (k:Zh B→A:=by intro zz;(first|refine Qa (Qe hS rfl rfl (by first|exact .head|exact .tail .head|exact .tail (.tail .head)|exact .tail (.tail (.tail .head))|exact .tail (.tail (.tail (.tail .head)))|exact .tail (.tail (.tail (.tail (.tail .head))))) (by repeat constructor)) rfl ?_|refine Qa (Qj rfl rfl (by first|assumption|exact hcc _ hS|exact hcb _ hS|exact hcs _ hS|exact hS.cell0 (by assumption)|exact Qu hS|exact Qv hS)) rfl ?_);exact zz.out):A:=k ⟨h⟩
theorem ZeY (h:B) (k:Zh B→A:=by intro zz;refine Qc7 (sz:=2) hS Tryz.func190 rfl rfl (by conv=>lhs;whnf) rfl rfl (by first|exact .head|exact .tail .head|exact .tail (.tail .head)|exact .tail (.tail (.tail .head))|exact .tail (.tail (.tail (.tail .head)))|exact .tail (.tail (.tail (.tail (.tail .head))))) (by repeat constructor) ?_;exact zz.out):A:=k ⟨h⟩
theorem ZeZ (h:B) (k:Zh B→A:=by intro zz;refine QaW (by first|exact hS.bare2|exact hS.drop.bare2|exact hS.drop.drop.bare2) ?_;exact zz.out):A:=k ⟨h⟩
theorem Ze0 (h:B) (k:Zh B→A:=by intro zz;(first|refine Qc rfl (fun _ hS=>Qb (k:=3) hS rfl rfl rfl (by first|exact .head|exact .tail .head|exact .tail (.tail .head)|exact .tail (.tail (.tail .head))|exact .tail (.tail (.tail (.tail .head)))|exact .tail (.tail (.tail (.tail (.tail .head))))) (by repeat constructor)) rfl ?_|refine Qc rfl (fun _ hS=>Qb (k:=3) hS rfl rfl rfl (by first|exact .head|exact .tail .head|exact .tail (.tail .head)|exact .tail (.tail (.tail .head))|exact .tail (.tail (.tail (.tail .head)))|exact .tail (.tail (.tail (.tail (.tail .head))))) (by assumption)) rfl ?_|refine Qc rfl (fun _ hS=>Qbb rfl rfl rfl (by first|assumption|exact (hcell _ hS).1|exact (hcell _ hS).2.1|exact (hcell _ hS).2.2|exact hS.cell0 (by assumption)) (by first|assumption|exact (hcell _ hS).1|exact (hcell _ hS).2.1|exact (hcell _ hS).2.2|exact hS.cell0 (by assumption)) (by first|assumption|exact (hcell _ hS).1|exact (hcell _ hS).2.1|exact (hcell _ hS).2.2|exact hS.cell0 (by assumption))) rfl ?_);exact zz.out):A:=k ⟨h⟩
theorem Ze1 (h:B) (k:Zh B→A:=by intro zz;refine Qc rfl (fun _ hS=>QU (sz:=1) rfl rfl rfl rfl (by omega) (by omega)) rfl ?_;exact zz.out):A:=k ⟨h⟩
theorem Ze2 (h:B) (k:Zh B→A:=by intro zz;(first|refine Qa (Qe hS rfl rfl (by first|exact .head|exact .tail .head|exact .tail (.tail .head)|exact .tail (.tail (.tail .head))|exact .tail (.tail (.tail (.tail .head)))|exact .tail (.tail (.tail (.tail (.tail .head))))) (by repeat constructor)) rfl ?_|refine Qa (Qj rfl rfl (by first|assumption|exact (hcl _ hS (by simp)).1|exact (hcl _ hS (by simp)).2.1|exact (hcl _ hS (by simp)).2.2.1|exact (hcl _ hS (by simp)).2.2.2|exact hS.cell0 (by assumption)|exact Qu hS|exact Qv hS)) rfl ?_);exact zz.out):A:=k ⟨h⟩
theorem Ze3 (h:B) (k:Zh B→A:=by intro zz;(first|refine Qa (Qb (k:=4) hS rfl rfl rfl (by first|exact .head|exact .tail .head|exact .tail (.tail .head)|exact .tail (.tail (.tail .head))|exact .tail (.tail (.tail (.tail .head)))|exact .tail (.tail (.tail (.tail (.tail .head))))) (by repeat constructor)) rfl ?_|refine Qa (Qb (k:=4) hS rfl rfl rfl (by first|exact .head|exact .tail .head|exact .tail (.tail .head)|exact .tail (.tail (.tail .head))|exact .tail (.tail (.tail (.tail .head)))|exact .tail (.tail (.tail (.tail (.tail .head))))) (by assumption)) rfl ?_|refine Qa (Qaw rfl rfl rfl (by first|assumption|exact (hcl _ hS (by simp)).1|exact (hcl _ hS (by simp)).2.1|exact (hcl _ hS (by simp)).2.2.1|exact (hcl _ hS (by simp)).2.2.2|exact hS.cell0 (by assumption)) (by first|assumption|exact (hcl _ hS (by simp)).1|exact (hcl _ hS (by simp)).2.1|exact (hcl _ hS (by simp)).2.2.1|exact (hcl _ hS (by simp)).2.2.2|exact hS.cell0 (by assumption)) (by first|assumption|exact (hcl _ hS (by simp)).1|exact (hcl _ hS (by simp)).2.1|exact (hcl _ hS (by simp)).2.2.1|exact (hcl _ hS (by simp)).2.2.2|exact hS.cell0 (by assumption)) (by first|assumption|exact (hcl _ hS (by simp)).1|exact (hcl _ hS (by simp)).2.1|exact (hcl _ hS (by simp)).2.2.1|exact (hcl _ hS (by simp)).2.2.2|exact hS.cell0 (by assumption))) rfl ?_);exact zz.out):A:=k ⟨h⟩
theorem Ze4 (h:B) (k:Zh B→A:=by intro zz;(first|refine Qc rfl (fun _ hS=>Qe hS rfl rfl (by first|exact .head|exact .tail .head|exact .tail (.tail .head)|exact .tail (.tail (.tail .head))|exact .tail (.tail (.tail (.tail .head)))|exact .tail (.tail (.tail (.tail (.tail .head))))) (by repeat constructor)) rfl ?_|refine Qc rfl (fun _ hS=>Qj rfl rfl (by first|assumption|exact (hcell _ hS).1|exact (hcell _ hS).2.1|exact (hcell _ hS).2.2|exact hll _ hS (by simp)|exact hS.cell0 (by assumption)|exact Qu hS|exact Qv hS)) rfl ?_);exact zz.out):A:=k ⟨h⟩
theorem Ze5 (h:B) (k:Zh B→A:=by intro zz;refine QaS Tryz.func21 rfl (by conv=>lhs;whnf) (by conv=>lhs;whnf) ?_;exact zz.out):A:=k ⟨h⟩
theorem Zfo (h:B) (k:Zh B→A:=by intro zz;refine Qh Tryz.func107 rfl Tryz.ntmps107 rfl ?_;exact zz.out):A:=k ⟨h⟩
theorem Zfp (h:B) (k:Zh B→A:=by intro zz;refine Qh Tryz.func69 rfl Tryz.ntmps69 rfl ?_;exact zz.out):A:=k ⟨h⟩
theorem Zfq (h:B) (k:Zh B→A:=by intro zz;refine Qq (St M w0 _ _) 12 ((0,true)::(1,true)::(2,true)::(3,true)::(5,true)::(6,true)::(7,true)::(8,true)::(9,true)::(4,false)::(10,false)::(11,true)::[]) (by kernel_rfl) (by kernel_rfl) (hS.drew) ?_;exact zz.out):A:=k ⟨h⟩
theorem Zfr (h:B) (k:Zh B→A:=by intro zz;refine Qa (Qdi rfl rfl (Lib.run_unsafeString_none _ _ _ _ _)) rfl ?_;exact zz.out):A:=k ⟨h⟩
theorem Zfs (h:B) (k:Zh B→A:=by intro zz;refine Qa (Qi (off:=4) rfl rfl) rfl ?_;exact zz.out):A:=k ⟨h⟩
theorem Zft (h:B) (k:Zh B→A:=by intro zz;refine Qa (QU (sz:=2) rfl rfl rfl rfl (by omega) (by omega)) rfl ?_;exact zz.out):A:=k ⟨h⟩
theorem Zfu (h:B) (k:Zh B→A:=by intro zz;refine Qd Tryz.func18 rfl (by conv=>lhs;whnf) ?_;exact zz.out):A:=k ⟨h⟩
theorem Zfv (h:B) (k:Zh B→A:=by intro zz;refine Qa (Qam (sz:=1) rfl rfl rfl rfl (by omega) (by omega)) rfl ?_;exact zz.out):A:=k ⟨h⟩
theorem Zfw (h:B) (k:Zh B→A:=by intro zz;refine Qq (St _ _ _ _) 7 ((0,true)::(1,true)::(2,true)::(3,true)::(4,true)::(5,true)::(6,true)::[]) (by kernel_rfl) (by kernel_rfl) (hS.drew) ?_;exact zz.out):A:=k ⟨h⟩
theorem Zfx (h:B) (k:Zh B→A:=by intro zz;refine Qa (QH (cells:=[_,_]) (.cons (by conv=>lhs;whnf) .nil) rfl) rfl ?_;exact zz.out):A:=k ⟨h⟩
theorem Zfy (h:B) (k:Zh B→A:=by intro zz;refine Qa (QU (sz:=6) rfl rfl rfl rfl (by omega) (by omega)) rfl ?_;exact zz.out):A:=k ⟨h⟩
theorem Zfz (h:B) (k:Zh B→A:=by intro zz;refine Qeu (sz:=4) hS Tryz.func121 rfl rfl (by conv=>lhs;whnf) (by conv=>lhs;whnf) rfl rfl (by first|exact .head|exact .tail .head|exact .tail (.tail .head)|exact .tail (.tail (.tail .head))|exact .tail (.tail (.tail (.tail .head)))|exact .tail (.tail (.tail (.tail (.tail .head))))) (by repeat constructor) ?_;exact zz.out):A:=k ⟨h⟩
theorem ZfA (h:B) (k:Zh B→A:=by intro zz;refine QaW (by first|exact hS.bare3|exact hS.drop.bare3|exact hS.drop.drop.bare3) ?_;exact zz.out):A:=k ⟨h⟩
theorem ZfB (h:B) (k:Zh B→A:=by intro zz;(first|refine Qc rfl (fun _ hS=>Qe hS rfl rfl (by first|exact .head|exact .tail .head|exact .tail (.tail .head)|exact .tail (.tail (.tail .head))|exact .tail (.tail (.tail (.tail .head)))|exact .tail (.tail (.tail (.tail (.tail .head))))) (by repeat constructor)) rfl ?_|refine Qc rfl (fun _ hS=>Qj rfl rfl (by first|assumption|exact (QB hS (.tail _ (.tail _ (.tail _ (.head _)))) hX).1|exact (QB hS (.tail _ (.tail _ (.tail _ (.head _)))) hX).2.1|exact (QB hS (.tail _ (.tail _ (.tail _ (.head _)))) hX).2.2|exact hS.cell0 (by assumption)|exact Qu hS|exact Qv hS)) rfl ?_);exact zz.out):A:=k ⟨h⟩
theorem ZfC (h:B) (k:Zh B→A:=by intro zz;refine Qc rfl (fun _ hS=>QqT rfl rfl (by omega) (by omega)) rfl ?_;exact zz.out):A:=k ⟨h⟩
theorem ZfD (h:B) (k:Zh B→A:=by intro zz;(first|refine Qc rfl (fun _ hS=>Qb (k:=4) hS rfl rfl rfl (by first|exact .head|exact .tail .head|exact .tail (.tail .head)|exact .tail (.tail (.tail .head))|exact .tail (.tail (.tail (.tail .head)))|exact .tail (.tail (.tail (.tail (.tail .head))))) (by repeat constructor)) rfl ?_|refine Qc rfl (fun _ hS=>Qb (k:=4) hS rfl rfl rfl (by first|exact .head|exact .tail .head|exact .tail (.tail .head)|exact .tail (.tail (.tail .head))|exact .tail (.tail (.tail (.tail .head)))|exact .tail (.tail (.tail (.tail (.tail .head))))) (by assumption)) rfl ?_|refine Qc rfl (fun _ hS=>Qaw rfl rfl rfl (by first|assumption|exact (hpc _ hS).1|exact (hpc _ hS).2.1|exact (hpc _ hS).2.2.1|exact (hpc _ hS).2.2.2.1|exact (hpc _ hS).2.2.2.2.1|exact (hpc _ hS).2.2.2.2.2|exact hS.cell0 (by assumption)) (by first|assumption|exact (hpc _ hS).1|exact (hpc _ hS).2.1|exact (hpc _ hS).2.2.1|exact (hpc _ hS).2.2.2.1|exact (hpc _ hS).2.2.2.2.1|exact (hpc _ hS).2.2.2.2.2|exact hS.cell0 (by assumption)) (by first|assumption|exact (hpc _ hS).1|exact (hpc _ hS).2.1|exact (hpc _ hS).2.2.1|exact (hpc _ hS).2.2.2.1|exact (hpc _ hS).2.2.2.2.1|exact (hpc _ hS).2.2.2.2.2|exact hS.cell0 (by assumption)) (by first|assumption|exact (hpc _ hS).1|exact (hpc _ hS).2.1|exact (hpc _ hS).2.2.1|exact (hpc _ hS).2.2.2.1|exact (hpc _ hS).2.2.2.2.1|exact (hpc _ hS).2.2.2.2.2|exact hS.cell0 (by assumption))) rfl ?_);exact zz.out):A:=k ⟨h⟩
theorem ZfE (h:B) (k:Zh B→A:=by intro zz;(first|refine Qc rfl (fun _ hS=>Qe hS rfl rfl (by first|exact .head|exact .tail .head|exact .tail (.tail .head)|exact .tail (.tail (.tail .head))|exact .tail (.tail (.tail (.tail .head)))|exact .tail (.tail (.tail (.tail (.tail .head))))) (by repeat constructor)) rfl ?_|refine Qc rfl (fun _ hS=>Qj rfl rfl (by first|assumption|exact (hpc _ hS.unlearn).2.2.2.2.2|exact hS.cell0 (by assumption)|exact Qu hS|exact Qv hS)) rfl ?_);exact zz.out):A:=k ⟨h⟩
theorem ZfF (h:B) (k:Zh B→A:=by intro zz;refine Qw rfl (fun _ hS=>QU (sz:=4) rfl rfl rfl rfl (by omega) (by omega)) rfl ?_;exact zz.out):A:=k ⟨h⟩
theorem ZfG (h:B) (k:Zh B→A:=by intro zz;(first|refine Qw rfl (fun _ hS=>Qb (k:=4) hS rfl rfl rfl (by first|exact .head|exact .tail .head|exact .tail (.tail .head)|exact .tail (.tail (.tail .head))|exact .tail (.tail (.tail (.tail .head)))|exact .tail (.tail (.tail (.tail (.tail .head))))) (by repeat constructor)) rfl ?_|refine Qw rfl (fun _ hS=>Qb (k:=4) hS rfl rfl rfl (by first|exact .head|exact .tail .head|exact .tail (.tail .head)|exact .tail (.tail (.tail .head))|exact .tail (.tail (.tail (.tail .head)))|exact .tail (.tail (.tail (.tail (.tail .head))))) (by assumption)) rfl ?_|refine Qw rfl (fun _ hS=>Qaw rfl rfl rfl (by first|assumption|exact (hcA _ hS).1|exact (hcA _ hS).2.1|exact (hcA _ hS).2.2.1|exact (hcA _ hS).2.2.2|exact (hcB _ hS).1|exact (hcB _ hS).2.1|exact (hcB _ hS).2.2.1|exact (hcB _ hS).2.2.2|exact hS.cell0 (by assumption)) (by first|assumption|exact (hcA _ hS).1|exact (hcA _ hS).2.1|exact (hcA _ hS).2.2.1|exact (hcA _ hS).2.2.2|exact (hcB _ hS).1|exact (hcB _ hS).2.1|exact (hcB _ hS).2.2.1|exact (hcB _ hS).2.2.2|exact hS.cell0 (by assumption)) (by first|assumption|exact (hcA _ hS).1|exact (hcA _ hS).2.1|exact (hcA _ hS).2.2.1|exact (hcA _ hS).2.2.2|exact (hcB _ hS).1|exact (hcB _ hS).2.1|exact (hcB _ hS).2.2.1|exact (hcB _ hS).2.2.2|exact hS.cell0 (by assumption)) (by first|assumption|exact (hcA _ hS).1|exact (hcA _ hS).2.1|exact (hcA _ hS).2.2.1|exact (hcA _ hS).2.2.2|exact (hcB _ hS).1|exact (hcB _ hS).2.1|exact (hcB _ hS).2.2.1|exact (hcB _ hS).2.2.2|exact hS.cell0 (by assumption))) rfl ?_);exact zz.out):A:=k ⟨h⟩
theorem ZfH (h:B) (k:Zh B→A:=by intro zz;refine Qd Tryz.func123 rfl (by conv=>lhs;whnf) ?_;exact zz.out):A:=k ⟨h⟩
theorem ZfI (h:B) (k:Zh B→A:=by intro zz;(first|refine Qc rfl (fun _ hS=>Qe hS rfl rfl (by first|exact .head|exact .tail .head|exact .tail (.tail .head)|exact .tail (.tail (.tail .head))|exact .tail (.tail (.tail (.tail .head)))|exact .tail (.tail (.tail (.tail (.tail .head))))) (by repeat constructor)) rfl ?_|refine Qc rfl (fun _ hS=>Qj rfl rfl (by first|assumption|exact (hpc _ hS).1|exact (hpc _ hS).2.1|exact (hpc _ hS).2.2.1|exact (hpc _ hS).2.2.2.1|exact (hpc _ hS).2.2.2.2.1|exact (hpc _ hS).2.2.2.2.2|exact hS.cell0 (by assumption)|exact Qu hS|exact Qv hS)) rfl ?_);exact zz.out):A:=k ⟨h⟩
theorem ZfJ (h:B) (k:Zh B→A:=by intro zz;refine Qd Tryz.func185 rfl (by conv=>lhs;whnf) ?_;exact zz.out):A:=k ⟨h⟩
theorem ZfK (h:B) (k:Zh B→A:=by intro zz;refine Qa (Qks rfl rfl rfl) rfl ?_;exact zz.out):A:=k ⟨h⟩
theorem ZfL (h:B) (k:Zh B→A:=by intro zz;refine Qd0 (cs:=[_]) hS rfl rfl rfl ?_;exact zz.out):A:=k ⟨h⟩
theorem ZfM (h:B) (k:Zh B→A:=by intro zz;(first|refine Qa (Qb (k:=3) hS rfl rfl rfl (by first|exact .head|exact .tail .head|exact .tail (.tail .head)|exact .tail (.tail (.tail .head))|exact .tail (.tail (.tail (.tail .head)))|exact .tail (.tail (.tail (.tail (.tail .head))))) (by repeat constructor)) rfl ?_|refine Qa (Qb (k:=3) hS rfl rfl rfl (by first|exact .head|exact .tail .head|exact .tail (.tail .head)|exact .tail (.tail (.tail .head))|exact .tail (.tail (.tail (.tail .head)))|exact .tail (.tail (.tail (.tail (.tail .head))))) (by assumption)) rfl ?_|refine Qa (Qbb rfl rfl rfl (by first|assumption|exact (hcc _ hS).1|exact (hcc _ hS).2.1|exact (hcc _ hS).2.2|exact hcb _ hS|exact hcs _ hS|exact hS.cell0 (by assumption)) (by first|assumption|exact (hcc _ hS).1|exact (hcc _ hS).2.1|exact (hcc _ hS).2.2|exact hcb _ hS|exact hcs _ hS|exact hS.cell0 (by assumption)) (by first|assumption|exact (hcc _ hS).1|exact (hcc _ hS).2.1|exact (hcc _ hS).2.2|exact hcb _ hS|exact hcs _ hS|exact hS.cell0 (by assumption))) rfl ?_);exact zz.out):A:=k ⟨h⟩
theorem ZfN (h:B) (k:Zh B→A:=by intro zz;refine Qeu (sz:=2) hS Tryz.func90 rfl rfl (by conv=>lhs;whnf) (by conv=>lhs;whnf) rfl rfl (by first|exact .head|exact .tail .head|exact .tail (.tail .head)|exact .tail (.tail (.tail .head))|exact .tail (.tail (.tail (.tail .head)))|exact .tail (.tail (.tail (.tail (.tail .head))))) (by repeat constructor) ?_;exact zz.out):A:=k ⟨h⟩
theorem ZfO (h:B) (k:Zh B→A:=by intro zz;refine Qc7 (sz:=2) hS Tryz.func189 rfl rfl (by conv=>lhs;whnf) rfl rfl (by first|exact .head|exact .tail .head|exact .tail (.tail .head)|exact .tail (.tail (.tail .head))|exact .tail (.tail (.tail (.tail .head)))|exact .tail (.tail (.tail (.tail (.tail .head))))) (by repeat constructor) ?_;exact zz.out):A:=k ⟨h⟩
theorem ZfP (h:B) (k:Zh B→A:=by intro zz;refine Qd Tryz.func239 rfl (by conv=>lhs;whnf) ?_;exact zz.out):A:=k ⟨h⟩
theorem ZfQ (h:B) (k:Zh B→A:=by intro zz;refine Qq (St _ _ _ _) 17 ((0,true)::(1,true)::(2,true)::(3,true)::(4,true)::(5,true)::(6,true)::(7,true)::(8,true)::(9,true)::(10,true)::(11,true)::(12,true)::(13,true)::(14,true)::(15,true)::(16,true)::[]) (by kernel_rfl) (by kernel_rfl) (hS.drew) ?_;exact zz.out):A:=k ⟨h⟩
theorem ZfR (h:B) (k:Zh B→A:=by intro zz;refine Qeu (sz:=4) hS Tryz.func91 rfl rfl (by conv=>lhs;whnf) (by conv=>lhs;whnf) rfl rfl (by first|exact .head|exact .tail .head|exact .tail (.tail .head)|exact .tail (.tail (.tail .head))|exact .tail (.tail (.tail (.tail .head)))|exact .tail (.tail (.tail (.tail (.tail .head))))) (by repeat constructor) ?_;exact zz.out):A:=k ⟨h⟩
theorem ZfS (h:B) (k:Zh B→A:=by intro zz;refine Qa (QH (cells:=[_,_,_]) (.cons (by conv=>lhs;whnf) (.cons (by conv=>lhs;whnf) .nil)) rfl) rfl ?_;exact zz.out):A:=k ⟨h⟩
theorem ZfT (h:B) (k:Zh B→A:=by intro zz;refine Qd Tryz.func100 rfl (by conv=>lhs;whnf) ?_;exact zz.out):A:=k ⟨h⟩
theorem ZfU (h:B) (k:Zh B→A:=by intro zz;refine Qw rfl (fun _ ⟨_,hS⟩=>Qft (by conv=>lhs;whnf)) rfl ?_;exact zz.out):A:=k ⟨h⟩
theorem ZfV (h:B) (k:Zh B→A:=by intro zz;refine QbW (Qek (by kernel_rfl) (QvU (by conv=>lhs;whnf) (by conv=>lhs;whnf) (by conv=>lhs;whnf) (by conv=>lhs;whnf) (by conv=>lhs;whnf))) rfl ?_;exact zz.out):A:=k ⟨h⟩
theorem ZfW (h:B) (k:Zh B→A:=by intro zz;refine Qd Tryz.func98 rfl (by conv=>lhs;whnf) ?_;exact zz.out):A:=k ⟨h⟩
theorem ZfX (h:B) (k:Zh B→A:=by intro zz;refine Qd Tryz.func31 rfl (by conv=>lhs;whnf) ?_;exact zz.out):A:=k ⟨h⟩
theorem ZfY (h:B) (k:Zh B→A:=by intro zz;refine Qan rfl rfl rfl (fun _ hS=>Qft (by conv=>lhs;whnf)) rfl ?_;exact zz.out):A:=k ⟨h⟩
theorem ZfZ (h:B) (k:Zh B→A:=by intro zz;refine Qan rfl rfl rfl (fun _ hS=>Qbm rfl) rfl ?_;exact zz.out):A:=k ⟨h⟩
theorem Zf0 (h:B) (k:Zh B→A:=by intro zz;(first|refine Qan rfl rfl rfl (fun _ hS=>Qe hS rfl rfl (by first|exact .head|exact .tail .head|exact .tail (.tail .head)|exact .tail (.tail (.tail .head))|exact .tail (.tail (.tail (.tail .head)))|exact .tail (.tail (.tail (.tail (.tail .head))))) (by repeat constructor)) rfl ?_|refine Qan rfl rfl rfl (fun _ hS=>Qj rfl rfl (by first|assumption|exact hS.cell0 (by assumption)|exact Qu hS|exact Qv hS)) rfl ?_);exact zz.out):A:=k ⟨h⟩
theorem Zf1 (h:B) (k:Zh B→A:=by intro zz;(first|refine Qa (Qe hS rfl rfl (by first|exact .head|exact .tail .head|exact .tail (.tail .head)|exact .tail (.tail (.tail .head))|exact .tail (.tail (.tail (.tail .head)))|exact .tail (.tail (.tail (.tail (.tail .head))))) (by repeat constructor)) rfl ?_|refine Qa (Qj rfl rfl (by first|assumption|exact (hcell _ hS).1|exact (hcell _ hS).2.1|exact (hcell _ hS).2.2|exact (hll _ hS (by simp)).1|exact (hll _ hS (by simp)).2.1|exact (hll _ hS (by simp)).2.2|exact hS.cell0 (by assumption)|exact Qu hS|exact Qv hS)) rfl ?_);exact zz.out):A:=k ⟨h⟩
theorem Zf2 (h:B) (k:Zh B→A:=by intro zz;(first|refine Qa (Qe hS rfl rfl (by first|exact .head|exact .tail .head|exact .tail (.tail .head)|exact .tail (.tail (.tail .head))|exact .tail (.tail (.tail (.tail .head)))|exact .tail (.tail (.tail (.tail (.tail .head))))) (by repeat constructor)) rfl ?_|refine Qa (Qj rfl rfl (by first|assumption|exact hk _ hS|exact hll' _ hS (by simp)|exact hS.cell0 (by assumption)|exact Qu hS|exact Qv hS)) rfl ?_);exact zz.out):A:=k ⟨h⟩
theorem Zf3 (h:B) (k:Zh B→A:=by intro zz;(first|refine Qc rfl (fun _ hS=>Qe hS rfl rfl (by first|exact .head|exact .tail .head|exact .tail (.tail .head)|exact .tail (.tail (.tail .head))|exact .tail (.tail (.tail (.tail .head)))|exact .tail (.tail (.tail (.tail (.tail .head))))) (by repeat constructor)) rfl ?_|refine Qc rfl (fun _ hS=>Qj rfl rfl (by first|assumption|exact hc1 _ hS|exact hc2 _ hS|exact hS.cell0 (by assumption)|exact Qu hS|exact Qv hS)) rfl ?_);exact zz.out):A:=k ⟨h⟩
theorem Zgg (h:B) (k:Zh B→A:=by intro zz;refine Qa (QeN rfl rfl rfl (by omega) (by first|omega|(simp;done)|(simp;omega))) rfl ?_;exact zz.out):A:=k ⟨h⟩
theorem Zgh (h:B) (k:Zh B→A:=by intro zz;refine QaS Tryz.func24 rfl (by conv=>lhs;whnf) (by conv=>lhs;whnf) ?_;exact zz.out):A:=k ⟨h⟩
theorem Zgi (h:B) (k:Zh B→A:=by intro zz;refine Qd Tryz.func203 rfl (by conv=>lhs;whnf) ?_;exact zz.out):A:=k ⟨h⟩
theorem Zgj (h:B) (k:Zh B→A:=by intro zz;refine Qq (St _ w0 [_] _) 10 ((0,true)::(1,true)::(2,true)::(3,true)::(4,true)::(5,true)::(6,true)::(7,true)::(8,true)::(9,true)::[]) (by kernel_rfl) (by kernel_rfl) (hS.drew.only1) ?_;exact zz.out):A:=k ⟨h⟩
theorem Zgk (h:B) (k:Zh B→A:=by intro zz;(first|refine Qa (QcJ (sz:=1) rfl rfl rfl rfl (by omega) (by omega) (by omega)) rfl ?_|refine Qa (Qba (sz:=1) rfl rfl rfl rfl (by omega) (by omega)) rfl ?_);exact zz.out):A:=k ⟨h⟩
theorem Zgl (h:B) (k:Zh B→A:=by intro zz;refine Qd Tryz.func211 rfl (by conv=>lhs;whnf) ?_;exact zz.out):A:=k ⟨h⟩
theorem Zgm (h:B) (k:Zh B→A:=by intro zz;refine Qq (St _ _ _ _) 11 ((0,true)::(1,true)::(2,true)::(3,true)::(4,true)::(5,true)::(6,true)::(7,true)::(8,true)::(9,true)::(10,true)::[]) (by kernel_rfl) (by kernel_rfl) (hS.drew) ?_;exact zz.out):A:=k ⟨h⟩
theorem Zgn (h:B) (k:Zh B→A:=by intro zz;(first|refine Qc rfl (fun _ hS=>Qe hS rfl rfl (by first|exact .head|exact .tail .head|exact .tail (.tail .head)|exact .tail (.tail (.tail .head))|exact .tail (.tail (.tail (.tail .head)))|exact .tail (.tail (.tail (.tail (.tail .head))))) (by repeat constructor)) rfl ?_|refine Qc rfl (fun _ hS=>Qj rfl rfl (by first|assumption|exact (QB hS (.tail _ (.tail _ (.head _))) hX).1|exact (QB hS (.tail _ (.tail _ (.head _))) hX).2.1|exact (QB hS (.tail _ (.tail _ (.head _))) hX).2.2|exact (hcl6 _ hS).1|exact (hcl6 _ hS).2.1|exact (hcl6 _ hS).2.2.1|exact (hcl6 _ hS).2.2.2.1|exact (hcl6 _ hS).2.2.2.2.1|exact (hcl6 _ hS).2.2.2.2.2|exact hS.cell0 (by assumption)|exact Qu hS|exact Qv hS)) rfl ?_);exact zz.out):A:=k ⟨h⟩
theorem Zgo (h:B) (k:Zh B→A:=by intro zz;refine Qa (Qam (sz:=3) rfl rfl rfl rfl (by omega) (by omega)) rfl ?_;exact zz.out):A:=k ⟨h⟩
theorem Zgp (h:B) (k:Zh B→A:=by intro zz;refine Qd Tryz.func122 rfl (by conv=>lhs;whnf) ?_;exact zz.out):A:=k ⟨h⟩
theorem Zgq (h:B) (k:Zh B→A:=by intro zz;refine QkA (sz:=4) (bts:=56) hS rfl rfl rfl rfl (by omega) (by omega) rfl ?_;exact zz.out):A:=k ⟨h⟩
theorem Zgr (h:B) (k:Zh B→A:=by intro zz;refine Qc rfl (fun _ hS=>Qi (off:=8) rfl rfl) rfl ?_;exact zz.out):A:=k ⟨h⟩
theorem Zgs (h:B) (k:Zh B→A:=by intro zz;refine Qd Tryz.func142 rfl (by conv=>lhs;whnf) ?_;exact zz.out):A:=k ⟨h⟩
theorem Zgt (h:B) (k:Zh B→A:=by intro zz;refine Qd Tryz.func140 rfl (by conv=>lhs;whnf) ?_;exact zz.out):A:=k ⟨h⟩
theorem Zgu (h:B) (k:Zh B→A:=by intro zz;refine Qd Tryz.func215 rfl (by conv=>lhs;whnf) ?_;exact zz.out):A:=k ⟨h⟩
theorem Zgv (h:B) (k:Zh B→A:=by intro zz;refine Qd Tryz.func218 rfl (by conv=>lhs;whnf) ?_;exact zz.out):A:=k ⟨h⟩
theorem Zgw (h:B) (k:Zh B→A:=by intro zz;refine QpS (sz:=2) hS Tryz.func95 rfl rfl (by conv=>lhs;whnf) (by conv=>lhs;whnf) (by conv=>lhs;whnf) (by conv=>lhs;whnf) rfl rfl (by first|exact .head|exact .tail .head|exact .tail (.tail .head)|exact .tail (.tail (.tail .head))|exact .tail (.tail (.tail (.tail .head)))|exact .tail (.tail (.tail (.tail (.tail .head))))) (by repeat constructor) ?_;exact zz.out):A:=k ⟨h⟩
theorem Zgx (h:B) (k:Zh B→A:=by intro zz;refine Qw rfl (fun _ hS=>Qi (off:=1) rfl rfl) rfl ?_;exact zz.out):A:=k ⟨h⟩
theorem Zgy (h:B) (k:Zh B→A:=by intro zz;refine Calls.mono (Qns h.tr N Mk h.tr.length hNl B _ A6 d _ c6 _ ((hTr.mono hF27).mono hF8) ((hN.mono (fun φ h=>hF7 φ (hF6 φ h))).mono hF8) (hS6'.mono hF8) (fun a ha=>by rw [hml];exact htr a ha) hl2 rfl hS) ?_;exact zz.out):A:=k ⟨h⟩
theorem Zgz (h:B) (k:Zh B→A:=by intro zz;refine Qd Tryz.func220 rfl (by conv=>lhs;whnf) ?_;exact zz.out):A:=k ⟨h⟩
theorem ZgA (h:B) (k:Zh B→A:=by intro zz;refine Qd Tryz.func223 rfl (by conv=>lhs;whnf) ?_;exact zz.out):A:=k ⟨h⟩
theorem ZgB (h:B) (k:Zh B→A:=by intro zz;refine Qd Tryz.func224 rfl (by conv=>lhs;whnf) ?_;exact zz.out):A:=k ⟨h⟩
theorem ZgC (h:B) (k:Zh B→A:=by intro zz;(first|refine Qw rfl (fun _ hS=>Qe hS rfl rfl (by first|exact .head|exact .tail .head|exact .tail (.tail .head)|exact .tail (.tail (.tail .head))|exact .tail (.tail (.tail (.tail .head)))|exact .tail (.tail (.tail (.tail (.tail .head))))) (by repeat constructor)) rfl ?_|refine Qw rfl (fun _ hS=>Qj rfl rfl (by first|assumption|exact hS.cell0 (by assumption)|exact Qu hS|exact Qv hS)) rfl ?_);exact zz.out):A:=k ⟨h⟩
theorem ZgD (h:B) (k:Zh B→A:=by intro zz;refine Qil (by first|exact hS|exact hS.drop|exact hS.drop.drop|exact hS.drop.drop.drop|exact hS.unlearn|exact hS.unlearn.drop|exact hS.unlearn.drop.drop|exact hS.dropL|exact hS.dropL.dropL|exact hS.drop.dropL.dropL) ?_;exact zz.out):A:=k ⟨h⟩
theorem ZgE (h:B) (k:Zh B→A:=by intro zz;refine Qc8 (sz:=3) hS Tryz.func138 rfl rfl rfl rfl (by first|exact .head|exact .tail .head|exact .tail (.tail .head)|exact .tail (.tail (.tail .head))|exact .tail (.tail (.tail (.tail .head)))|exact .tail (.tail (.tail (.tail (.tail .head))))) (by repeat constructor) ?_;exact zz.out):A:=k ⟨h⟩
theorem ZgF (h:B) (k:Zh B→A:=by intro zz;(first|refine Qc rfl (fun _ hS=>Qe hS rfl rfl (by first|exact .head|exact .tail .head|exact .tail (.tail .head)|exact .tail (.tail (.tail .head))|exact .tail (.tail (.tail (.tail .head)))|exact .tail (.tail (.tail (.tail (.tail .head))))) (by repeat constructor)) rfl ?_|refine Qc rfl (fun _ hS=>Qj rfl rfl (by first|assumption|exact (hll _ hS (by repeat constructor)).1|exact (hll _ hS (by repeat constructor)).2.1|exact (hll _ hS (by repeat constructor)).2.2|exact hS.cell0 (by assumption)|exact Qu hS|exact Qv hS)) rfl ?_);exact zz.out):A:=k ⟨h⟩
theorem ZgG (h:B) (k:Zh B→A:=by intro zz;(first|refine Qw rfl (fun _ ⟨_,hS⟩=>Qe hS rfl rfl (by first|exact .head|exact .tail .head|exact .tail (.tail .head)|exact .tail (.tail (.tail .head))|exact .tail (.tail (.tail (.tail .head)))|exact .tail (.tail (.tail (.tail (.tail .head))))) (by repeat constructor)) rfl ?_|refine Qw rfl (fun _ ⟨_,hS⟩=>Qj rfl rfl (by first|assumption|exact (hll _ hS (by repeat constructor)).1|exact (hll _ hS (by repeat constructor)).2.1|exact (hll _ hS (by repeat constructor)).2.2|exact hS.cell0 (by assumption)|exact Qu hS|exact Qv hS)) rfl ?_);exact zz.out):A:=k ⟨h⟩
theorem ZgH (h:B) (k:Zh B→A:=by intro zz;refine Qiz Tryz.func154 rfl (by conv=>lhs;whnf) (by conv=>lhs;whnf) (by conv=>lhs;whnf) ?_;exact zz.out):A:=k ⟨h⟩
theorem ZgI (h:B) (k:Zh B→A:=by intro zz;refine Qq (St _ _ _ _) 16 ((0,true)::(1,true)::(2,true)::(3,true)::(4,true)::(5,true)::(6,true)::(7,true)::(8,true)::(9,true)::(10,true)::(11,true)::(12,true)::(13,true)::(14,true)::(15,true)::[]) (by kernel_rfl) (by kernel_rfl) (hS.drew) ?_;exact zz.out):A:=k ⟨h⟩
theorem ZgJ (h:B) (k:Zh B→A:=by intro zz;refine Qc rfl (fun _ hS=>Qi (off:=10) rfl rfl) rfl ?_;exact zz.out):A:=k ⟨h⟩
theorem ZgK (h:B) (k:Zh B→A:=by intro zz;(first|refine Qc rfl (fun _ hS=>Qh0 rfl rfl (by omega)) rfl ?_|refine Qc rfl (fun _ hS=>QjB rfl rfl (by omega)) rfl ?_|refine Qc rfl (fun _ hS=>rfl) rfl ?_);exact zz.out):A:=k ⟨h⟩
theorem ZgL (h:B) (k:Zh B→A:=by intro zz;(first|refine Qc rfl (fun _ hS=>Qjx rfl (by conv=>lhs;whnf)) rfl ?_|refine Qc rfl (fun _ hS=>Qjy rfl (by conv=>lhs;whnf)) rfl ?_);exact zz.out):A:=k ⟨h⟩
theorem ZgM (h:B) (k:Zh B→A:=by intro zz;(first|refine Qc rfl (fun _ hS=>Qe hS rfl rfl (by first|exact .head|exact .tail .head|exact .tail (.tail .head)|exact .tail (.tail (.tail .head))|exact .tail (.tail (.tail (.tail .head)))|exact .tail (.tail (.tail (.tail (.tail .head))))) (by repeat constructor)) rfl ?_|refine Qc rfl (fun _ hS=>Qj rfl rfl (by first|assumption|exact hk _ hS|exact hg _ hS|exact hS.cell0 (by assumption)|exact Qu hS|exact Qv hS)) rfl ?_);exact zz.out):A:=k ⟨h⟩
theorem ZgN (h:B) (k:Zh B→A:=by intro zz;refine QbW (Qek (by kernel_rfl) Qk6) rfl ?_;exact zz.out):A:=k ⟨h⟩
theorem ZgT (h:B) (k:Zh B→A:=by intro zz;refine Qa (QeQ rfl (Lib.run_to_unsafe (P:=Tryz.prog) w (t:=118) ⟨b,0,none⟩ rfl rfl rfl (by decide) hsh (by simp))) rfl ?_;exact zz.out):A:=k ⟨h⟩
theorem ZgU (h:B) (k:Zh B→A:=by intro zz;refine Qa (Qna (ex:=Extern.AbiNoEscape.same) (QoZ rfl) Tryz.func164 (by kernel_rfl) (by kernel_rfl) (by kernel_rfl) (by kernel_rfl) (Lib.run_noEscape w _)) rfl ?_;exact zz.out):A:=k ⟨h⟩
theorem ZgV (h:B) (k:Zh B→A:=by intro zz;refine Qa (QeQ rfl (Lib.run_from_unsafe (P:=Tryz.prog) w (u:=118) ⟨b,0,none⟩ rfl rfl rfl hsh (by kernel_rfl))) rfl ?_;exact zz.out):A:=k ⟨h⟩
theorem ZgW (h:B) (k:Zh B→A:=by intro zz;(first|refine Qa (run_neq_nil_no rfl rfl rfl) rfl ?_|refine Qa (run_neq_nil_yes rfl rfl rfl) rfl ?_|refine Qa (Qg0 rfl rfl rfl rfl) rfl ?_);exact zz.out):A:=k ⟨h⟩
theorem ZgX (h:B) (k:Zh B→A:=by intro zz;refine QaN (sz:=1) (bts:=1) hS (by conv=>lhs;whnf) rfl rfl rfl rfl (hB) rfl rfl (.cons _ List.perm_middle.symm) (by omega) (by omega) rfl ?_;exact zz.out):A:=k ⟨h⟩
theorem ZgY (h:B) (k:Zh B→A:=by intro zz;refine Qq (fun _=>True) 13 ((0,true)::(1,true)::(2,true)::(3,true)::(4,true)::(5,true)::(6,true)::(7,true)::(8,true)::(9,true)::(10,false)::(11,true)::(12,true)::[]) (by kernel_rfl) (by kernel_rfl) (trivial) ?_;exact zz.out):A:=k ⟨h⟩
theorem ZgZ (h:B) (k:Zh B→A:=by intro zz;refine Qc rfl (fun _ hS=>QgJ rfl rfl rfl (by omega) (by first|omega|(simp;done)|(simp;omega))) rfl ?_;exact zz.out):A:=k ⟨h⟩
theorem Zg0 (h:B) (k:Zh B→A:=by intro zz;refine Qc rfl (fun _ hS=>QeN rfl rfl rfl (by omega) (by first|omega|(simp;done)|(simp;omega))) rfl ?_;exact zz.out):A:=k ⟨h⟩
theorem Zg1 (h:B) (k:Zh B→A:=by intro zz;refine Qa (QH (cells:=[_,_,_,_]) (.cons (by conv=>lhs;whnf) (.cons (by conv=>lhs;whnf) (.cons (by conv=>lhs;whnf) .nil))) rfl) rfl ?_;exact zz.out):A:=k ⟨h⟩
theorem Zg2 (h:B) (k:Zh B→A:=by intro zz;refine Calls.mono (L3 (c::r) s.adv A _ vc M w0 _ _ F b hG (by rw [←htk];unfold RS.left at hl;omega) hS) ?_;exact zz.out):A:=k ⟨h⟩
theorem Zg3 (h:B) (k:Zh B→A:=by intro zz;refine Qc8 (sz:=6) hS Tryz.func41 rfl rfl rfl rfl (by first|exact .head|exact .tail .head|exact .tail (.tail .head)|exact .tail (.tail (.tail .head))|exact .tail (.tail (.tail (.tail .head)))|exact .tail (.tail (.tail (.tail (.tail .head))))) (by repeat constructor) ?_;exact zz.out):A:=k ⟨h⟩
theorem Zg4 (h:B) (k:Zh B→A:=by intro zz;refine Qq (St M w0 _ _) 6 ((0,true)::(1,true)::(2,true)::(3,true)::(4,true)::(5,true)::[]) (by kernel_rfl) (by kernel_rfl) (hS.drew) ?_;exact zz.out):A:=k ⟨h⟩
theorem Zg5 (h:B) (k:Zh B→A:=by intro zz;refine QaW (by first|exact hS.only2|exact hS.drop.only2|exact hS.unlearn.only2|exact hS.unlearn.drop.only2) ?_;exact zz.out):A:=k ⟨h⟩
theorem Zg6 (h:B) (k:Zh B→A:=by intro zz;refine Qq (St _ w0 [_] _) 12 ((0,true)::(1,true)::(2,true)::(3,true)::(4,true)::(5,true)::(6,true)::(7,true)::(8,true)::(9,true)::(10,true)::(11,true)::[]) (by kernel_rfl) (by kernel_rfl) (hS.drew.only1) ?_;exact zz.out):A:=k ⟨h⟩
theorem Zg7 (h:B) (k:Zh B→A:=by intro zz;(first|refine Qc rfl (fun _ hS=>QqR rfl rfl (by omega) (by omega)) rfl ?_|refine Qc rfl (fun _ hS=>Qjv rfl rfl) rfl ?_);exact zz.out):A:=k ⟨h⟩
theorem Zg8 (h:B) (k:Zh B→A:=by intro zz;refine Qa (QlH (len:=7) (el:=9) (sz:=1) rfl rfl rfl rfl (by omega) (by omega)) rfl ?_;exact zz.out):A:=k ⟨h⟩
theorem Zg9 (h:B) (k:Zh B→A:=by intro zz;refine Qq (St _ _ _ _) 13 ((0,true)::(1,true)::(2,true)::(3,true)::(4,true)::(5,true)::(6,true)::(7,true)::(8,true)::(9,true)::(10,false)::(11,false)::(12,true)::[]) (by kernel_rfl) (by kernel_rfl) (hS.drew) ?_;exact zz.out):A:=k ⟨h⟩
theorem Zha (h:B) (k:Zh B→A:=by intro zz;(first|refine Qc rfl (fun _ hS=>QlF hS rfl rfl rfl (by first|exact .head|exact .tail .head|exact .tail (.tail .head)|exact .tail (.tail (.tail .head))|exact .tail (.tail (.tail (.tail .head)))|exact .tail (.tail (.tail (.tail (.tail .head))))) (by assumption) (by assumption)) rfl ?_|refine Qc rfl (fun _ hS=>QlG hS rfl rfl rfl (by first|exact .head|exact .tail .head|exact .tail (.tail .head)|exact .tail (.tail (.tail .head))|exact .tail (.tail (.tail (.tail .head)))|exact .tail (.tail (.tail (.tail (.tail .head))))) (by assumption) (by assumption)) rfl ?_);exact zz.out):A:=k ⟨h⟩
theorem Zhb (h:B) (k:Zh B→A:=by intro zz;refine Qc8 (sz:=4) hS Tryz.func178 rfl rfl rfl rfl (by first|exact .head|exact .tail .head|exact .tail (.tail .head)|exact .tail (.tail (.tail .head))|exact .tail (.tail (.tail (.tail .head)))|exact .tail (.tail (.tail (.tail (.tail .head))))) (by repeat constructor) ?_;exact zz.out):A:=k ⟨h⟩
theorem Zhc (h:B) (k:Zh B→A:=by intro zz;refine Qq (St _ _ _ _) 6 ((0,true)::(1,true)::(2,true)::(3,true)::(4,true)::(5,true)::[]) (by kernel_rfl) (by kernel_rfl) (hS.drew) ?_;exact zz.out):A:=k ⟨h⟩
theorem Zhd (h:B) (k:Zh B→A:=by intro zz;refine Qq (St _ w0 [_,_,_] []) 15 ((0,true)::(1,true)::(2,true)::(3,true)::(4,true)::(5,true)::(6,false)::(7,true)::(8,true)::(9,true)::(10,true)::(11,true)::(12,false)::(13,true)::(14,true)::[]) (by kernel_rfl) (by kernel_rfl) (hS.drew.bare3) ?_;exact zz.out):A:=k ⟨h⟩
theorem Zhe (h:B) (k:Zh B→A:=by intro zz;refine Calls.mono ((by have:=iha M w0 _ F' b mb clk es TR rest O G ⟨k1,n1,s1,A1,c1,a1⟩ li _ (hB.mono hFF) hSm hnod hsub hli (by omega) (hS.perm (List.perm_append_comm_assoc [_,_,_,_] [_,_] _));rw [show (LT.mk k1 n1 s1 A1 c1 a1).tm=⟨k1,n1,s1,a1.ts⟩ from rfl,hap] at this;exact this)) ?_;exact zz.out):A:=k ⟨h⟩
theorem Zhf (h:B) (k:Zh B→A:=by intro zz;(first|refine Qa (QcJ (sz:=6) rfl rfl rfl rfl (by omega) (by omega) (by omega)) rfl ?_|refine Qa (Qba (sz:=6) rfl rfl rfl rfl (by omega) (by omega)) rfl ?_);exact zz.out):A:=k ⟨h⟩
theorem Zhg (h:B) (k:Zh B→A:=by intro zz;refine Q6 hS rfl (by conv=>lhs;whnf) rfl rfl (.tail (.tail (.tail .head))) (Qol _ _ hX) (.tail (.tail (.tail .head))) ?_;exact zz.out):A:=k ⟨h⟩
theorem Zhh (h:B) (k:Zh B→A:=by intro zz;refine Qq (St _ w0 [_] _) 15 ((0,true)::(1,true)::(2,true)::(3,true)::(5,true)::(6,true)::(7,true)::(8,true)::(4,false)::(9,false)::(10,true)::(11,true)::(12,true)::(13,true)::(14,true)::[]) (by kernel_rfl) (by kernel_rfl) (hS.drew.only1) ?_;exact zz.out):A:=k ⟨h⟩
theorem Zhi (h:B) (k:Zh B→A:=by intro zz;refine Calls.mono (Qjq u cg.t _ kbm.tail hsmu (by rw [hu];exact tcl.small) tcg.small Und.head hrg.tail (by simp;omega) (hS.perm ((List.perm_append_comm_assoc [_] [_,_] _).trans (.cons _ (.cons _ (List.perm_append_comm_assoc [_] O _)))))) ?_;exact zz.out):A:=k ⟨h⟩
theorem Zhj (h:B) (k:Zh B→A:=by intro zz;refine Qq (St _ _ _ _) 12 ((0,true)::(1,true)::(2,true)::(3,true)::(4,true)::(5,true)::(6,true)::(7,true)::(8,true)::(9,false)::(10,true)::(11,true)::[]) (by kernel_rfl) (by kernel_rfl) (hS.drew) ?_;exact zz.out):A:=k ⟨h⟩
theorem Zhk (h:B) (k:Zh B→A:=by intro zz;refine Calls.mono (Qkb cl.bd cl.bA cl.bc s1.fresh cs.length cnext _ hrcl2.tail (by omega) hpn hS) ?_;exact zz.out):A:=k ⟨h⟩
theorem Zhl (h:B) (k:Zh B→A:=by intro zz;refine Qcz (St _ _ _ _) 16 (.read 0 (.read 1 (.read 2 (.read 3 (.read 4 (.read 5 (.read 7 (.read 8 (.read 9 (.read 10 (.read 11 (.read 12 (.pick 6 (.pick 13 (.pick 14 (.pick 15 .tail .none) (.pick 15 (.pick 14 .tail .none) .none)) (.pick 14 (.pick 13 (.pick 15 .tail .none) (.pick 15 (.pick 13 .tail .none) .none)) (.pick 15 (.pick 13 (.pick 14 .tail .none) (.pick 14 (.pick 13 .tail .none) .none)) .none))) (.pick 14 (.pick 6 (.pick 13 (.pick 15 .tail .none) (.pick 15 (.pick 13 .tail .none) .none)) (.pick 15 (.pick 6 (.pick 13 .tail .none) .none) .none)) (.pick 15 (.pick 6 (.pick 13 (.pick 14 .tail .none) (.pick 14 (.pick 13 .tail .none) .none)) (.pick 14 (.pick 6 (.pick 13 .tail .none) .none) .none)) .none))))))))))))))) (by kernel_rfl) (by kernel_rfl) hS.drew ?_;exact zz.out):A:=k ⟨h⟩
theorem Zhm (h:B) (k:Zh B→A:=by intro zz;refine Qq (St _ w0 [_] []) 12 ((0,true)::(1,true)::(2,true)::(3,true)::(4,true)::(5,true)::(6,false)::(7,true)::(8,false)::(9,false)::(10,true)::(11,true)::[]) (by kernel_rfl) (by kernel_rfl) (hS.drew.bare1) ?_;exact zz.out):A:=k ⟨h⟩
theorem Zhn (h:B) (k:Zh B→A:=by intro zz;refine Qc rfl (fun _ hS=>QH (cells:=[_,_]) (.cons (by conv=>lhs;whnf) (.cons (by conv=>lhs;whnf) .nil)) rfl) rfl ?_;exact zz.out):A:=k ⟨h⟩
theorem Zho (h:B) (k:Zh B→A:=by intro zz;refine Calls.mono (hcall _ hok'.bm (by rw [←hok.hB];exact hsm) (by simp [Ts.nodes]) hz (by omega) (by omega) (hS.perm (List.perm_append_comm_assoc [_] [_,_] _))) ?_;exact zz.out):A:=k ⟨h⟩
theorem Zhp (h:B) (k:Zh B→A:=by intro zz;(first|refine Qa (Qb (k:=4) hS rfl rfl rfl (by first|exact .head|exact .tail .head|exact .tail (.tail .head)|exact .tail (.tail (.tail .head))|exact .tail (.tail (.tail (.tail .head)))|exact .tail (.tail (.tail (.tail (.tail .head))))) (by repeat constructor)) rfl ?_|refine Qa (Qb (k:=4) hS rfl rfl rfl (by first|exact .head|exact .tail .head|exact .tail (.tail .head)|exact .tail (.tail (.tail .head))|exact .tail (.tail (.tail (.tail .head)))|exact .tail (.tail (.tail (.tail (.tail .head))))) (by assumption)) rfl ?_|refine Qa (Qaw rfl rfl rfl (by first|assumption|exact (hpc _ hS).1|exact (hpc _ hS).2.1|exact (hpc _ hS).2.2.1|exact (hpc _ hS).2.2.2.1|exact (hpc _ hS).2.2.2.2.1|exact (hpc _ hS).2.2.2.2.2|exact hS.cell0 (by assumption)) (by first|assumption|exact (hpc _ hS).1|exact (hpc _ hS).2.1|exact (hpc _ hS).2.2.1|exact (hpc _ hS).2.2.2.1|exact (hpc _ hS).2.2.2.2.1|exact (hpc _ hS).2.2.2.2.2|exact hS.cell0 (by assumption)) (by first|assumption|exact (hpc _ hS).1|exact (hpc _ hS).2.1|exact (hpc _ hS).2.2.1|exact (hpc _ hS).2.2.2.1|exact (hpc _ hS).2.2.2.2.1|exact (hpc _ hS).2.2.2.2.2|exact hS.cell0 (by assumption)) (by first|assumption|exact (hpc _ hS).1|exact (hpc _ hS).2.1|exact (hpc _ hS).2.2.1|exact (hpc _ hS).2.2.2.1|exact (hpc _ hS).2.2.2.2.1|exact (hpc _ hS).2.2.2.2.2|exact hS.cell0 (by assumption))) rfl ?_);exact zz.out):A:=k ⟨h⟩
theorem Zhq (h:B) (k:Zh B→A:=by intro zz;refine Qc rfl (fun _ hS=>QH (cells:=[_,_,_]) (.cons (by conv=>lhs;whnf) (.cons (by conv=>lhs;whnf) (.cons (by conv=>lhs;whnf) .nil))) rfl) rfl ?_;exact zz.out):A:=k ⟨h⟩
theorem Zhr (h:B) (k:Zh B→A:=by intro zz;refine QaN (sz:=2) (bts:=32) hS (by conv=>lhs;whnf) rfl rfl rfl rfl (hrow3) rfl rfl (.cons _ (QfC [_,_] _ _ _ _)) (by omega) (by omega) rfl ?_;exact zz.out):A:=k ⟨h⟩
theorem Zhs (h:B) (k:Zh B→A:=by intro zz;(first|refine Qa (Qb (k:=2) hS rfl rfl rfl (by first|exact .head|exact .tail .head|exact .tail (.tail .head)|exact .tail (.tail (.tail .head))|exact .tail (.tail (.tail (.tail .head)))|exact .tail (.tail (.tail (.tail (.tail .head))))) (by repeat constructor)) rfl ?_|refine Qa (Qb (k:=2) hS rfl rfl rfl (by first|exact .head|exact .tail .head|exact .tail (.tail .head)|exact .tail (.tail (.tail .head))|exact .tail (.tail (.tail (.tail .head)))|exact .tail (.tail (.tail (.tail (.tail .head))))) (by assumption)) rfl ?_|refine Qa (QaO rfl rfl rfl (by first|assumption|exact hpa _ hS|exact hS.cell0 (by assumption)) (by first|assumption|exact hpa _ hS|exact hS.cell0 (by assumption))) rfl ?_);exact zz.out):A:=k ⟨h⟩
theorem Zht (h:B) (k:Zh B→A:=by intro zz;(first|refine Qa (Qb (k:=3) hS rfl rfl rfl (by first|exact .head|exact .tail .head|exact .tail (.tail .head)|exact .tail (.tail (.tail .head))|exact .tail (.tail (.tail (.tail .head)))|exact .tail (.tail (.tail (.tail (.tail .head))))) (by repeat constructor)) rfl ?_|refine Qa (Qb (k:=3) hS rfl rfl rfl (by first|exact .head|exact .tail .head|exact .tail (.tail .head)|exact .tail (.tail (.tail .head))|exact .tail (.tail (.tail (.tail .head)))|exact .tail (.tail (.tail (.tail (.tail .head))))) (by assumption)) rfl ?_|refine Qa (Qbb rfl rfl rfl (by first|assumption|exact hwl _ hS|exact (hcc _ hS).1|exact (hcc _ hS).2.1|exact (hcc _ hS).2.2|exact hS.cell0 (by assumption)) (by first|assumption|exact hwl _ hS|exact (hcc _ hS).1|exact (hcc _ hS).2.1|exact (hcc _ hS).2.2|exact hS.cell0 (by assumption)) (by first|assumption|exact hwl _ hS|exact (hcc _ hS).1|exact (hcc _ hS).2.1|exact (hcc _ hS).2.2|exact hS.cell0 (by assumption))) rfl ?_);exact zz.out):A:=k ⟨h⟩
theorem Zhu (h:B) (k:Zh B→A:=by intro zz;refine Q6 hS rfl (by conv=>lhs;whnf) rfl rfl .head (by rw [hi1,Nat.zero_add,Nat.mul_one];exact hput) .head ?_;exact zz.out):A:=k ⟨h⟩
theorem Zhv (h:B) (k:Zh B→A:=by intro zz;(first|refine Qa (Qe hS rfl rfl (by first|exact .head|exact .tail .head|exact .tail (.tail .head)|exact .tail (.tail (.tail .head))|exact .tail (.tail (.tail (.tail .head)))|exact .tail (.tail (.tail (.tail (.tail .head))))) (by repeat constructor)) rfl ?_|refine Qa (Qj rfl rfl (by first|assumption|exact hct _ hS|exact hcs _ hS|exact hS.cell0 (by assumption)|exact Qu hS|exact Qv hS)) rfl ?_);exact zz.out):A:=k ⟨h⟩
theorem Zhw (h:B) (k:Zh B→A:=by intro zz;(first|refine Qa (Qe hS rfl rfl (by first|exact .head|exact .tail .head|exact .tail (.tail .head)|exact .tail (.tail (.tail .head))|exact .tail (.tail (.tail (.tail .head)))|exact .tail (.tail (.tail (.tail (.tail .head))))) (by repeat constructor)) rfl ?_|refine Qa (Qj rfl rfl (by first|assumption|exact hct _ hS|exact hcm _ hS|exact hS.cell0 (by assumption)|exact Qu hS|exact Qv hS)) rfl ?_);exact zz.out):A:=k ⟨h⟩
theorem Zhx (h:B) (k:Zh B→A:=by intro zz;(first|refine Qw rfl (fun _ hS=>Qe hS rfl rfl (by first|exact .head|exact .tail .head|exact .tail (.tail .head)|exact .tail (.tail (.tail .head))|exact .tail (.tail (.tail (.tail .head)))|exact .tail (.tail (.tail (.tail (.tail .head))))) (by repeat constructor)) rfl ?_|refine Qw rfl (fun _ hS=>Qj rfl rfl (by first|assumption|exact hct _ hS|exact hcm _ hS|exact hS.cell0 (by assumption)|exact Qu hS|exact Qv hS)) rfl ?_);exact zz.out):A:=k ⟨h⟩
theorem Zhy (h:B) (k:Zh B→A:=by intro zz;refine Calls.mono (QkM h.cs Mk A A2 A6 c c2 c6 _ (hCs.mono hF27) (hM2.mono hF27) hS6' hgl hl1 hml hS) ?_;exact zz.out):A:=k ⟨h⟩
theorem Zhz (h:B) (k:Zh B→A:=by intro zz;refine Qa (QH (cells:=[_,_]) (.cons (by conv=>lhs;whnf) (.cons (by conv=>lhs;whnf) .nil)) rfl) rfl ?_;exact zz.out):A:=k ⟨h⟩
theorem ZhA (h:B) (k:Zh B→A:=by intro zz;(first|refine Qw rfl (fun _ hS=>Qe hS rfl rfl (by first|exact .head|exact .tail .head|exact .tail (.tail .head)|exact .tail (.tail (.tail .head))|exact .tail (.tail (.tail (.tail .head)))|exact .tail (.tail (.tail (.tail (.tail .head))))) (by repeat constructor)) rfl ?_|refine Qw rfl (fun _ hS=>Qj rfl rfl (by first|assumption|exact hct _ hS|exact hS.cell0 (by assumption)|exact Qu hS|exact Qv hS)) rfl ?_);exact zz.out):A:=k ⟨h⟩
theorem ZhB (h:B) (k:Zh B→A:=by intro zz;refine Q6 hS rfl (by conv=>lhs;whnf) rfl rfl (.tail .head) (by rw [Nat.zero_add];exact hput) (.tail .head) ?_;exact zz.out):A:=k ⟨h⟩
theorem ZhC (h:B) (k:Zh B→A:=by intro zz;(first|refine Qc rfl (fun _ hS=>Qe hS rfl rfl (by first|exact .head|exact .tail .head|exact .tail (.tail .head)|exact .tail (.tail (.tail .head))|exact .tail (.tail (.tail (.tail .head)))|exact .tail (.tail (.tail (.tail (.tail .head))))) (by repeat constructor)) rfl ?_|refine Qc rfl (fun _ hS=>Qj rfl rfl (by first|assumption|exact (hcx _ hS).1|exact (hcx _ hS).2.1|exact (hcx _ hS).2.2|exact (hcy _ hS).1|exact (hcy _ hS).2.1|exact (hcy _ hS).2.2|exact hS.cell0 (by assumption)|exact Qu hS|exact Qv hS)) rfl ?_);exact zz.out):A:=k ⟨h⟩
theorem ZhD (h:B) (k:Zh B→A:=by intro zz;(first|refine Qc rfl (fun _ hS=>Qb (k:=3) hS rfl rfl rfl (by first|exact .head|exact .tail .head|exact .tail (.tail .head)|exact .tail (.tail (.tail .head))|exact .tail (.tail (.tail (.tail .head)))|exact .tail (.tail (.tail (.tail (.tail .head))))) (by repeat constructor)) rfl ?_|refine Qc rfl (fun _ hS=>Qb (k:=3) hS rfl rfl rfl (by first|exact .head|exact .tail .head|exact .tail (.tail .head)|exact .tail (.tail (.tail .head))|exact .tail (.tail (.tail (.tail .head)))|exact .tail (.tail (.tail (.tail (.tail .head))))) (by assumption)) rfl ?_|refine Qc rfl (fun _ hS=>Qbb rfl rfl rfl (by first|assumption|exact (hcx _ hS).1|exact (hcx _ hS).2.1|exact (hcx _ hS).2.2|exact (hcy _ hS).1|exact (hcy _ hS).2.1|exact (hcy _ hS).2.2|exact hS.cell0 (by assumption)) (by first|assumption|exact (hcx _ hS).1|exact (hcx _ hS).2.1|exact (hcx _ hS).2.2|exact (hcy _ hS).1|exact (hcy _ hS).2.1|exact (hcy _ hS).2.2|exact hS.cell0 (by assumption)) (by first|assumption|exact (hcx _ hS).1|exact (hcx _ hS).2.1|exact (hcx _ hS).2.2|exact (hcy _ hS).1|exact (hcy _ hS).2.1|exact (hcy _ hS).2.2|exact hS.cell0 (by assumption))) rfl ?_);exact zz.out):A:=k ⟨h⟩
theorem ZhE (h:B) (k:Zh B→A:=by intro zz;(first|refine Qa (Qe hS rfl rfl (by first|exact .head|exact .tail .head|exact .tail (.tail .head)|exact .tail (.tail (.tail .head))|exact .tail (.tail (.tail (.tail .head)))|exact .tail (.tail (.tail (.tail (.tail .head))))) (by repeat constructor)) rfl ?_|refine Qa (Qj rfl rfl (by first|assumption|exact (hcx _ hS).1|exact (hcx _ hS).2.1|exact (hcx _ hS).2.2|exact (hcy _ hS).1|exact (hcy _ hS).2.1|exact (hcy _ hS).2.2|exact hS.cell0 (by assumption)|exact Qu hS|exact Qv hS)) rfl ?_);exact zz.out):A:=k ⟨h⟩
theorem ZhF (h:B) (k:Zh B→A:=by intro zz;refine Calls.mono (hcall _ (hL.mono hFF') hg hl hadr hP' (by omega) (by omega) (by omega) (by omega) (by omega) (hS.perm (List.perm_append_comm_assoc [_,_,_] [_,_] _))) ?_;exact zz.out):A:=k ⟨h⟩
theorem ZhG (h:B) (k:Zh B→A:=by intro zz;refine Qa2 hS rfl (by conv=>lhs;whnf) rfl rfl (.tail .head) (QcK (QcH D') [r0,r1,r2,r3] (tcs u2) rs _ (by omega) rfl) (.tail .head) ?_;exact zz.out):A:=k ⟨h⟩
theorem ZhH (h:B) (k:Zh B→A:=by intro zz;(first|refine Qc rfl (fun _ hS=>Qe hS rfl rfl (by first|exact .head|exact .tail .head|exact .tail (.tail .head)|exact .tail (.tail (.tail .head))|exact .tail (.tail (.tail (.tail .head)))|exact .tail (.tail (.tail (.tail (.tail .head))))) (by repeat constructor)) rfl ?_|refine Qc rfl (fun _ hS=>Qj rfl rfl (by first|assumption|exact (hcc _ hS).1|exact (hcc _ hS).2.1|exact (hcc _ hS).2.2|exact hS.cell0 (by assumption)|exact Qu hS|exact Qv hS)) rfl ?_);exact zz.out):A:=k ⟨h⟩
theorem ZhI (h:B) (k:Zh B→A:=by intro zz;refine Calls.mono (hcall _ hL hgl hl1 ha hP (by omega) (by omega) (by omega) (by omega) (by omega) hS) ?_;exact zz.out):A:=k ⟨h⟩
theorem ZhJ (h:B) (k:Zh B→A:=by intro zz;refine Qa2 hS rfl (by rfl) rfl rfl (.tail (.tail .head)) (by rw [Nat.zero_add];exact hput _) (.tail (.tail .head)) ?_;exact zz.out):A:=k ⟨h⟩
theorem ZhK (h:B) (k:Zh B→A:=by intro zz;refine Qa (QH (cells:=[_,_,_,_]) (.cons (by conv=>lhs;whnf) (.cons (by conv=>lhs;whnf) (.cons (by conv=>lhs;whnf) (.cons (by conv=>lhs;whnf) .nil)))) rfl) rfl ?_;exact zz.out):A:=k ⟨h⟩
theorem ZhL (h:B) (k:Zh B→A:=by intro zz;refine Qq (St _ _ _ _) 8 ((0,true)::(1,true)::(2,true)::(3,true)::(4,true)::(5,true)::(6,true)::(7,true)::[]) (by kernel_rfl) (by kernel_rfl) (hS.drew) ?_;exact zz.out):A:=k ⟨h⟩
theorem ZhM (h:B) (k:Zh B→A:=by intro zz;(first|refine Qc rfl (fun _ hS=>Qi4 rfl rfl (by assumption)) rfl ?_|refine Qc rfl (fun _ hS=>Qi5 rfl rfl (by assumption)) rfl ?_);exact zz.out):A:=k ⟨h⟩
theorem ZhN (h:B) (k:Zh B→A:=by intro zz;(first|refine Qa (Qb (k:=4) hS rfl rfl rfl (by first|exact .head|exact .tail .head|exact .tail (.tail .head)|exact .tail (.tail (.tail .head))|exact .tail (.tail (.tail (.tail .head)))|exact .tail (.tail (.tail (.tail (.tail .head))))) (by repeat constructor)) rfl ?_|refine Qa (Qb (k:=4) hS rfl rfl rfl (by first|exact .head|exact .tail .head|exact .tail (.tail .head)|exact .tail (.tail (.tail .head))|exact .tail (.tail (.tail (.tail .head)))|exact .tail (.tail (.tail (.tail (.tail .head))))) (by assumption)) rfl ?_|refine Qa (Qaw rfl rfl rfl (by first|assumption|exact (hcell _ hS).1|exact (hcell _ hS).2.1|exact (hcell _ hS).2.2|exact hS.cell0 (by assumption)) (by first|assumption|exact (hcell _ hS).1|exact (hcell _ hS).2.1|exact (hcell _ hS).2.2|exact hS.cell0 (by assumption)) (by first|assumption|exact (hcell _ hS).1|exact (hcell _ hS).2.1|exact (hcell _ hS).2.2|exact hS.cell0 (by assumption)) (by first|assumption|exact (hcell _ hS).1|exact (hcell _ hS).2.1|exact (hcell _ hS).2.2|exact hS.cell0 (by assumption))) rfl ?_);exact zz.out):A:=k ⟨h⟩
theorem ZhO (h:B) (k:Zh B→A:=by intro zz;(first|refine Qc rfl (fun _ hS=>Qe hS rfl rfl (by first|exact .head|exact .tail .head|exact .tail (.tail .head)|exact .tail (.tail (.tail .head))|exact .tail (.tail (.tail (.tail .head)))|exact .tail (.tail (.tail (.tail (.tail .head))))) (by repeat constructor)) rfl ?_|refine Qc rfl (fun _ hS=>Qj rfl rfl (by first|assumption|exact hgc _ hS|exact hS.cell0 (by assumption)|exact Qu hS|exact Qv hS)) rfl ?_);exact zz.out):A:=k ⟨h⟩
theorem ZhP (h:B) (k:Zh B→A:=by intro zz;refine Calls.mono (Qot x.h (Qx y.cl) hA hB y.A hc hd y.c _ hok'.hh (hfl.imp fun w h=>h.1) hS) ?_;exact zz.out):A:=k ⟨h⟩
theorem ZhQ (h:B) (k:Zh B→A:=by intro zz;(first|refine Qa (Qb (k:=2) hS rfl rfl rfl (by first|exact .head|exact .tail .head|exact .tail (.tail .head)|exact .tail (.tail (.tail .head))|exact .tail (.tail (.tail (.tail .head)))|exact .tail (.tail (.tail (.tail (.tail .head))))) (by repeat constructor)) rfl ?_|refine Qa (Qb (k:=2) hS rfl rfl rfl (by first|exact .head|exact .tail .head|exact .tail (.tail .head)|exact .tail (.tail (.tail .head))|exact .tail (.tail (.tail (.tail .head)))|exact .tail (.tail (.tail (.tail (.tail .head))))) (by assumption)) rfl ?_|refine Qa (QaO rfl rfl rfl (by first|assumption|exact (hll _ hS (by repeat constructor)).1|exact (hll _ hS (by repeat constructor)).2.1|exact (hll _ hS (by repeat constructor)).2.2|exact hS.cell0 (by assumption)) (by first|assumption|exact (hll _ hS (by repeat constructor)).1|exact (hll _ hS (by repeat constructor)).2.1|exact (hll _ hS (by repeat constructor)).2.2|exact hS.cell0 (by assumption))) rfl ?_);exact zz.out):A:=k ⟨h⟩
theorem ZhR (h:B) (k:Zh B→A:=by intro zz;(first|refine Qa (QcJ (sz:=4) rfl rfl rfl rfl (by omega) (by omega) (by omega)) rfl ?_|refine Qa (Qba (sz:=4) rfl rfl rfl rfl (by omega) (by omega)) rfl ?_);exact zz.out):A:=k ⟨h⟩
theorem ZhS (h:B) (k:Zh B→A:=by intro zz;refine Qq (St _ w0 [_,_] []) 10 ((0,true)::(1,true)::(2,true)::(3,true)::(4,true)::(5,true)::(6,false)::(7,false)::(8,true)::(9,true)::[]) (by kernel_rfl) (by kernel_rfl) (hS.drew.bare2) ?_;exact zz.out):A:=k ⟨h⟩
theorem ZhT (h:B) (k:Zh B→A:=by intro zz;refine Calls.mono (Ql0 x a _ ha ⟨_,hl.choose_spec.1⟩ ⟨_,hl1.choose_spec.1⟩ hlen ⟨_,F,hFF,hok,hS⟩) ?_;exact zz.out):A:=k ⟨h⟩
theorem ZhU (h:B) (k:Zh B→A:=by intro zz;(first|refine Qa (Qe hS rfl rfl (by first|exact .head|exact .tail .head|exact .tail (.tail .head)|exact .tail (.tail (.tail .head))|exact .tail (.tail (.tail (.tail .head)))|exact .tail (.tail (.tail (.tail (.tail .head))))) (by repeat constructor)) rfl ?_|refine Qa (Qj rfl rfl (by first|assumption|exact hsv _ hS (.tail _ (.head _))|exact hS.cell0 (by assumption)|exact Qu hS|exact Qv hS)) rfl ?_);exact zz.out):A:=k ⟨h⟩
theorem ZhV (h:B) (k:Zh B→A:=by intro zz;(first|refine Qan rfl rfl rfl (fun _ hS=>run_rem10 rfl rfl) rfl ?_|refine Qan rfl rfl rfl (fun _ hS=>Qti rfl rfl (by omega) (by omega) (by omega)) rfl ?_|refine Qan rfl rfl rfl (fun _ hS=>Qtj rfl rfl (by omega) (by omega)) rfl ?_);exact zz.out):A:=k ⟨h⟩
theorem ZhW (h:B) (k:Zh B→A:=by intro zz;(first|refine Qan rfl rfl rfl (fun _ hS=>Qbw rfl rfl) rfl ?_|refine Qan rfl rfl rfl (fun _ hS=>Qgj rfl rfl (by first|assumption|omega)) rfl ?_|refine Qan rfl rfl rfl (fun _ hS=>Qe0 rfl rfl (by omega)) rfl ?_|refine Qan rfl rfl rfl (fun _ hS=>rfl) rfl ?_);exact zz.out):A:=k ⟨h⟩
theorem ZhX (h:B) (k:Zh B→A:=by intro zz;(first|refine Qa (Qb (k:=3) hS rfl rfl rfl (by first|exact .head|exact .tail .head|exact .tail (.tail .head)|exact .tail (.tail (.tail .head))|exact .tail (.tail (.tail (.tail .head)))|exact .tail (.tail (.tail (.tail (.tail .head))))) (by repeat constructor)) rfl ?_|refine Qa (Qb (k:=3) hS rfl rfl rfl (by first|exact .head|exact .tail .head|exact .tail (.tail .head)|exact .tail (.tail (.tail .head))|exact .tail (.tail (.tail (.tail .head)))|exact .tail (.tail (.tail (.tail (.tail .head))))) (by assumption)) rfl ?_|refine Qa (Qbb rfl rfl rfl (by first|assumption|exact (hcell _ hS).1|exact (hcell _ hS).2.1|exact (hcell _ hS).2.2|exact (hll _ hS (by simp)).1|exact (hll _ hS (by simp)).2.1|exact (hll _ hS (by simp)).2.2|exact hS.cell0 (by assumption)) (by first|assumption|exact (hcell _ hS).1|exact (hcell _ hS).2.1|exact (hcell _ hS).2.2|exact (hll _ hS (by simp)).1|exact (hll _ hS (by simp)).2.1|exact (hll _ hS (by simp)).2.2|exact hS.cell0 (by assumption)) (by first|assumption|exact (hcell _ hS).1|exact (hcell _ hS).2.1|exact (hcell _ hS).2.2|exact (hll _ hS (by simp)).1|exact (hll _ hS (by simp)).2.1|exact (hll _ hS (by simp)).2.2|exact hS.cell0 (by assumption))) rfl ?_);exact zz.out):A:=k ⟨h⟩
theorem ZhY (h:B) (k:Zh B→A:=by intro zz;(first|refine Qc rfl (fun _ hS=>Qe hS rfl rfl (by first|exact .head|exact .tail .head|exact .tail (.tail .head)|exact .tail (.tail (.tail .head))|exact .tail (.tail (.tail (.tail .head)))|exact .tail (.tail (.tail (.tail (.tail .head))))) (by repeat constructor)) rfl ?_|refine Qc rfl (fun _ hS=>Qj rfl rfl (by first|assumption|exact (hcell _ hS).1|exact (hcell _ hS).2.1|exact (hcell _ hS).2.2|exact (hll _ hS (by simp)).1|exact (hll _ hS (by simp)).2.1|exact (hll _ hS (by simp)).2.2|exact hS.cell0 (by assumption)|exact Qu hS|exact Qv hS)) rfl ?_);exact zz.out):A:=k ⟨h⟩
theorem ZhZ (h:B) (k:Zh B→A:=by intro zz;refine QaN (sz:=1) (bts:=8) hS (by conv=>lhs;whnf) rfl rfl rfl rfl (hrow) rfl rfl (.cons _ (List.perm_append_comm_assoc [_] O _)) (by omega) (by omega) rfl ?_;exact zz.out):A:=k ⟨h⟩
theorem Zh0 (h:B) (k:Zh B→A:=by intro zz;(first|refine Qa (Qe hS rfl rfl (by first|exact .head|exact .tail .head|exact .tail (.tail .head)|exact .tail (.tail (.tail .head))|exact .tail (.tail (.tail (.tail .head)))|exact .tail (.tail (.tail (.tail (.tail .head))))) (by repeat constructor)) rfl ?_|refine Qa (Qj rfl rfl (by first|assumption|exact hk _ hS|exact hg _ hS|exact hS.cell0 (by assumption)|exact Qu hS|exact Qv hS)) rfl ?_);exact zz.out):A:=k ⟨h⟩
theorem Zh1 (h:B) (k:Zh B→A:=by intro zz;refine Calls.mono (QtF x.k x.T.ts _ _ (fun w' h=>hG w' (hS.ext.trans h)) (fun w' h=>hW w' (hS.ext.trans h)) (hS.und hAr).sl hx2 (by omega) (by omega)) ?_;exact zz.out):A:=k ⟨h⟩
theorem Zg (h:B) (k:Zh B→A:=by intro zz;refine Zl ?_;refine Zbk ?_;exact zz.out):A:=k ⟨h⟩
theorem Zd (h:B) (k:Zh B→A:=by intro zz;refine Zco ?_;refine Zb ?_;exact zz.out):A:=k ⟨h⟩
theorem Zm (h:B) (k:Zh B→A:=by intro zz;refine Zg ?_;refine Ze ?_;exact zz.out):A:=k ⟨h⟩
theorem Zu (h:B) (k:Zh B→A:=by intro zz;refine Zl ?_;refine Zm ?_;exact zz.out):A:=k ⟨h⟩
theorem Zk (h:B) (k:Zh B→A:=by intro zz;refine Zg ?_;refine Zd ?_;exact zz.out):A:=k ⟨h⟩
theorem ZD (h:B) (k:Zh B→A:=by intro zz;refine Ze ?_;refine Zx ?_;exact zz.out):A:=k ⟨h⟩
theorem Zf4 (h:B) (k:Zh B→A:=by intro zz;refine Zb ?_;refine Zb2 ?_;exact zz.out):A:=k ⟨h⟩
theorem ZR (h:B) (k:Zh B→A:=by intro zz;refine Zb ?_;refine ZaF ?_;exact zz.out):A:=k ⟨h⟩
theorem Zn (h:B) (k:Zh B→A:=by intro zz;refine Zf4 ?_;refine Za9 ?_;exact zz.out):A:=k ⟨h⟩
theorem ZG (h:B) (k:Zh B→A:=by intro zz;refine Zb ?_;refine Zl ?_;exact zz.out):A:=k ⟨h⟩
theorem Zo (h:B) (k:Zh B→A:=by intro zz;refine Zco ?_;refine Zd ?_;exact zz.out):A:=k ⟨h⟩
theorem Zah (h:B) (k:Zh B→A:=by intro zz;refine ZaO ?_;refine ZaO ?_;exact zz.out):A:=k ⟨h⟩
theorem Zh2 (h:B) (k:Zh B→A:=by intro zz;refine Zg ?_;refine ZJ ?_;refine ZG ?_;exact zz.out):A:=k ⟨h⟩
theorem ZaD (h:B) (k:Zh B→A:=by intro zz;refine Zg ?_;refine Zau ?_;exact zz.out):A:=k ⟨h⟩
theorem Zh3 (h:B) (k:Zh B→A:=by intro zz;refine Ze ?_;refine Zb ?_;exact zz.out):A:=k ⟨h⟩
theorem ZaH (h:B) (k:Zh B→A:=by intro zz;refine Zd ?_;refine Zb2 ?_;exact zz.out):A:=k ⟨h⟩
theorem ZH (h:B) (k:Zh B→A:=by intro zz;refine Zm ?_;refine Ze ?_;exact zz.out):A:=k ⟨h⟩
theorem ZU (h:B) (k:Zh B→A:=by intro zz;refine Zs ?_;refine Zaa ?_;exact zz.out):A:=k ⟨h⟩
theorem ZO (h:B) (k:Zh B→A:=by intro zz;refine Zm ?_;refine ZY ?_;exact zz.out):A:=k ⟨h⟩
theorem Zf (h:B) (k:Zh B→A:=by intro zz;refine Zg ?_;refine Zaw ?_;exact zz.out):A:=k ⟨h⟩
theorem Zbo (h:B) (k:Zh B→A:=by intro zz;refine Zl ?_;refine Zb3 ?_;exact zz.out):A:=k ⟨h⟩
theorem ZP (h:B) (k:Zh B→A:=by intro zz;refine Zbk ?_;refine Ze ?_;exact zz.out):A:=k ⟨h⟩
theorem Zh4 (h:B) (k:Zh B→A:=by intro zz;refine Zg ?_;refine Zq ?_;exact zz.out):A:=k ⟨h⟩
theorem ZV (h:B) (k:Zh B→A:=by intro zz;refine Zd ?_;refine Zl ?_;exact zz.out):A:=k ⟨h⟩
theorem ZW (h:B) (k:Zh B→A:=by intro zz;refine Zu ?_;refine ZY ?_;exact zz.out):A:=k ⟨h⟩
theorem Ze6 (h:B) (k:Zh B→A:=by intro zz;refine Za9 ?_;refine Zbo ?_;exact zz.out):A:=k ⟨h⟩
theorem Za0 (h:B) (k:Zh B→A:=by intro zz;refine Ze ?_;refine Zah ?_;exact zz.out):A:=k ⟨h⟩
theorem ZaI (h:B) (k:Zh B→A:=by intro zz;refine Zr ?_;refine ZR ?_;exact zz.out):A:=k ⟨h⟩
theorem Zf5 (h:B) (k:Zh B→A:=by intro zz;refine Zh2 ?_;refine ZaF ?_;refine Ze6 ?_;exact zz.out):A:=k ⟨h⟩
theorem ZI (h:B) (k:Zh B→A:=by intro zz;refine ZD ?_;refine ZD ?_;exact zz.out):A:=k ⟨h⟩
theorem Zf6 (h:B) (k:Zh B→A:=by intro zz;refine Zbk ?_;refine ZB ?_;refine Zh3 ?_;exact zz.out):A:=k ⟨h⟩
theorem ZdP (h:B) (k:Zh B→A:=by intro zz;refine Zx ?_;refine ZE ?_;refine Zx ?_;exact zz.out):A:=k ⟨h⟩
theorem Zh5 (h:B) (k:Zh B→A:=by intro zz;refine Zfi ?_;refine Zfi ?_;exact zz.out):A:=k ⟨h⟩
theorem ZbI (h:B) (k:Zh B→A:=by intro zz;refine Zam ?_;refine Zf6 ?_;exact zz.out):A:=k ⟨h⟩
theorem Zcb (h:B) (k:Zh B→A:=by intro zz;refine Ze ?_;refine Zh5 ?_;exact zz.out):A:=k ⟨h⟩
theorem Zbp (h:B) (k:Zh B→A:=by intro zz;refine Zd ?_;refine ZaF ?_;exact zz.out):A:=k ⟨h⟩
theorem ZZ (h:B) (k:Zh B→A:=by intro zz;refine Zd ?_;refine Zu ?_;exact zz.out):A:=k ⟨h⟩
theorem Zar (h:B) (k:Zh B→A:=by intro zz;refine Zm ?_;refine Zd ?_;exact zz.out):A:=k ⟨h⟩
theorem ZL (h:B) (k:Zh B→A:=by intro zz;refine Zh2 ?_;refine Zb2 ?_;refine ZbA ?_;exact zz.out):A:=k ⟨h⟩
theorem Ze7 (h:B) (k:Zh B→A:=by intro zz;refine Zh3 ?_;refine Zb3 ?_;exact zz.out):A:=k ⟨h⟩
theorem Zc0 (h:B) (k:Zh B→A:=by intro zz;refine ZaD ?_;refine ZE ?_;exact zz.out):A:=k ⟨h⟩
theorem ZaJ (h:B) (k:Zh B→A:=by intro zz;refine Zh4 ?_;refine ZaH ?_;exact zz.out):A:=k ⟨h⟩
theorem Z2 (h:B) (k:Zh B→A:=by intro zz;refine Zr ?_;refine Zn ?_;exact zz.out):A:=k ⟨h⟩
theorem ZQ (h:B) (k:Zh B→A:=by intro zz;refine Zy ?_;refine Ze7 ?_;exact zz.out):A:=k ⟨h⟩
theorem Zh6 (h:B) (k:Zh B→A:=by intro zz;refine Zg ?_;refine Zaf ?_;exact zz.out):A:=k ⟨h⟩
theorem Za1 (h:B) (k:Zh B→A:=by intro zz;refine Zb ?_;refine Zb3 ?_;exact zz.out):A:=k ⟨h⟩
theorem ZaK (h:B) (k:Zh B→A:=by intro zz;refine Zg ?_;refine ZM ?_;exact zz.out):A:=k ⟨h⟩
theorem ZC (h:B) (k:Zh B→A:=by intro zz;refine Zm ?_;refine Zj ?_;exact zz.out):A:=k ⟨h⟩
theorem Zv (h:B) (k:Zh B→A:=by intro zz;refine Za ?_;refine Zd ?_;exact zz.out):A:=k ⟨h⟩
theorem Zac (h:B) (k:Zh B→A:=by intro zz;refine ZO ?_;refine Zau ?_;exact zz.out):A:=k ⟨h⟩
theorem Z7 (h:B) (k:Zh B→A:=by intro zz;refine Zan ?_;refine ZE ?_;exact zz.out):A:=k ⟨h⟩
theorem ZX (h:B) (k:Zh B→A:=by intro zz;refine Zav ?_;refine Zn ?_;exact zz.out):A:=k ⟨h⟩
theorem Zbq (h:B) (k:Zh B→A:=by intro zz;refine Zo ?_;refine Zu ?_;exact zz.out):A:=k ⟨h⟩
theorem Z3 (h:B) (k:Zh B→A:=by intro zz;refine Zr ?_;refine Zd ?_;exact zz.out):A:=k ⟨h⟩
theorem Zas (h:B) (k:Zh B→A:=by intro zz;refine ZU ?_;refine ZaC ?_;exact zz.out):A:=k ⟨h⟩
theorem Z8 (h:B) (k:Zh B→A:=by intro zz;refine ZP ?_;refine Ze ?_;exact zz.out):A:=k ⟨h⟩
theorem Zbr (h:B) (k:Zh B→A:=by intro zz;refine ZV ?_;refine Zc0 ?_;exact zz.out):A:=k ⟨h⟩
theorem Zad (h:B) (k:Zh B→A:=by intro zz;refine ZR ?_;refine Zk ?_;exact zz.out):A:=k ⟨h⟩
theorem Zai (h:B) (k:Zh B→A:=by intro zz;refine ZaB ?_;refine Zw ?_;exact zz.out):A:=k ⟨h⟩
theorem Zcx (h:B) (k:Zh B→A:=by intro zz;refine Zh6 ?_;refine ZaH ?_;exact zz.out):A:=k ⟨h⟩
theorem Ze8 (h:B) (k:Zh B→A:=by intro zz;refine ZcO ?_;refine Zc ?_;exact zz.out):A:=k ⟨h⟩
theorem Zf7 (h:B) (k:Zh B→A:=by intro zz;refine ZF ?_;refine Zb ?_;exact zz.out):A:=k ⟨h⟩
theorem ZbJ (h:B) (k:Zh B→A:=by intro zz;refine ZY ?_;refine ZM ?_;exact zz.out):A:=k ⟨h⟩
theorem Za2 (h:B) (k:Zh B→A:=by intro zz;refine Zba ?_;refine ZE ?_;exact zz.out):A:=k ⟨h⟩
theorem ZdQ (h:B) (k:Zh B→A:=by intro zz;refine Zcp ?_;refine Zf7 ?_;exact zz.out):A:=k ⟨h⟩
theorem Zaj (h:B) (k:Zh B→A:=by intro zz;refine Za0 ?_;refine Zah ?_;exact zz.out):A:=k ⟨h⟩
theorem ZS (h:B) (k:Zh B→A:=by intro zz;refine Ze ?_;refine Ze ?_;exact zz.out):A:=k ⟨h⟩
theorem ZT (h:B) (k:Zh B→A:=by intro zz;refine Z5 ?_;refine Ze8 ?_;exact zz.out):A:=k ⟨h⟩
theorem Zcy (h:B) (k:Zh B→A:=by intro zz;refine Zy ?_;refine Zx ?_;exact zz.out):A:=k ⟨h⟩
theorem Z0 (h:B) (k:Zh B→A:=by intro zz;refine Zs ?_;refine Zs ?_;exact zz.out):A:=k ⟨h⟩
theorem Z1 (h:B) (k:Zh B→A:=by intro zz;refine ZaI ?_;refine Zk ?_;exact zz.out):A:=k ⟨h⟩
theorem Z4 (h:B) (k:Zh B→A:=by intro zz;refine Zd ?_;refine Zm ?_;exact zz.out):A:=k ⟨h⟩
theorem Zc1 (h:B) (k:Zh B→A:=by intro zz;refine Zh4 ?_;refine Zbp ?_;exact zz.out):A:=k ⟨h⟩
theorem Zc2 (h:B) (k:Zh B→A:=by intro zz;refine Zau ?_;refine Zx ?_;exact zz.out):A:=k ⟨h⟩
theorem Zbs (h:B) (k:Zh B→A:=by intro zz;refine Zi ?_;refine Zie ?_;exact zz.out):A:=k ⟨h⟩
theorem Z9 (h:B) (k:Zh B→A:=by intro zz;refine Zx ?_;refine ZD ?_;exact zz.out):A:=k ⟨h⟩
theorem ZaL (h:B) (k:Zh B→A:=by intro zz;refine Zk ?_;refine Zu ?_;exact zz.out):A:=k ⟨h⟩
theorem ZbK (h:B) (k:Zh B→A:=by intro zz;refine Zf5 ?_;refine Zm ?_;exact zz.out):A:=k ⟨h⟩
theorem Zcz (h:B) (k:Zh B→A:=by intro zz;refine ZaI ?_;refine Zg ?_;exact zz.out):A:=k ⟨h⟩
theorem ZaM (h:B) (k:Zh B→A:=by intro zz;refine ZY ?_;refine Zau ?_;exact zz.out):A:=k ⟨h⟩
theorem Zc3 (h:B) (k:Zh B→A:=by intro zz;refine Zav ?_;refine ZR ?_;exact zz.out):A:=k ⟨h⟩
theorem ZdR (h:B) (k:Zh B→A:=by intro zz;refine Zbr ?_;refine Za1 ?_;exact zz.out):A:=k ⟨h⟩
theorem ZdS (h:B) (k:Zh B→A:=by intro zz;refine Zf5 ?_;refine Zg ?_;exact zz.out):A:=k ⟨h⟩
theorem ZbL (h:B) (k:Zh B→A:=by intro zz;refine ZM ?_;refine ZdP ?_;exact zz.out):A:=k ⟨h⟩
theorem Zae (h:B) (k:Zh B→A:=by intro zz;refine Zcb ?_;refine Zfi ?_;exact zz.out):A:=k ⟨h⟩
theorem ZcA (h:B) (k:Zh B→A:=by intro zz;refine ZN ?_;refine Ze ?_;exact zz.out):A:=k ⟨h⟩
theorem Zak (h:B) (k:Zh B→A:=by intro zz;refine Ze ?_;refine Zi ?_;exact zz.out):A:=k ⟨h⟩
theorem Zal (h:B) (k:Zh B→A:=by intro zz;refine Zcb ?_;refine Zbq ?_;exact zz.out):A:=k ⟨h⟩
theorem Zf8 (h:B) (k:Zh B→A:=by intro zz;refine ZaK ?_;refine ZE ?_;exact zz.out):A:=k ⟨h⟩
theorem Zh7 (h:B) (k:Zh B→A:=by intro zz;refine ZaD ?_;refine Zfj ?_;exact zz.out):A:=k ⟨h⟩
theorem ZdT (h:B) (k:Zh B→A:=by intro zz;refine Zcq ?_;refine Zax ?_;exact zz.out):A:=k ⟨h⟩
theorem Zat (h:B) (k:Zh B→A:=by intro zz;refine ZH ?_;refine Zi ?_;exact zz.out):A:=k ⟨h⟩
theorem ZcB (h:B) (k:Zh B→A:=by intro zz;refine ZH ?_;refine Ze ?_;exact zz.out):A:=k ⟨h⟩
theorem ZcC (h:B) (k:Zh B→A:=by intro zz;refine Zx ?_;refine Zav ?_;exact zz.out):A:=k ⟨h⟩
theorem Zay (h:B) (k:Zh B→A:=by intro zz;refine Zb ?_;refine Zk ?_;exact zz.out):A:=k ⟨h⟩
theorem Zaz (h:B) (k:Zh B→A:=by intro zz;refine ZF ?_;refine ZA ?_;exact zz.out):A:=k ⟨h⟩
theorem ZaA (h:B) (k:Zh B→A:=by intro zz;refine Zb ?_;refine ZbI ?_;exact zz.out):A:=k ⟨h⟩
theorem ZdU (h:B) (k:Zh B→A:=by intro zz;refine Z5 ?_;refine ZaB ?_;exact zz.out):A:=k ⟨h⟩
theorem ZbM (h:B) (k:Zh B→A:=by intro zz;refine ZE ?_;refine Ze ?_;exact zz.out):A:=k ⟨h⟩
theorem ZbN (h:B) (k:Zh B→A:=by intro zz;refine ZZ ?_;refine ZJ ?_;exact zz.out):A:=k ⟨h⟩
theorem ZaE (h:B) (k:Zh B→A:=by intro zz;refine Zy ?_;refine Zao ?_;exact zz.out):A:=k ⟨h⟩
theorem ZcD (h:B) (k:Zh B→A:=by intro zz;refine Zc1 ?_;refine Zf8 ?_;exact zz.out):A:=k ⟨h⟩
theorem Zc4 (h:B) (k:Zh B→A:=by intro zz;refine ZD ?_;refine Zc2 ?_;exact zz.out):A:=k ⟨h⟩
theorem ZaN (h:B) (k:Zh B→A:=by intro zz;refine Zu ?_;refine Ze ?_;exact zz.out):A:=k ⟨h⟩
theorem ZbO (h:B) (k:Zh B→A:=by intro zz;refine Zcp ?_;refine ZdQ ?_;exact zz.out):A:=k ⟨h⟩
theorem Ze9 (h:B) (k:Zh B→A:=by intro zz;refine ZdR ?_;refine ZaJ ?_;exact zz.out):A:=k ⟨h⟩
theorem ZbP (h:B) (k:Zh B→A:=by intro zz;refine Za0 ?_;refine ZaO ?_;exact zz.out):A:=k ⟨h⟩
theorem Zcc (h:B) (k:Zh B→A:=by intro zz;refine Zr ?_;refine ZD ?_;exact zz.out):A:=k ⟨h⟩
theorem Zf9 (h:B) (k:Zh B→A:=by intro zz;refine ZaC ?_;refine Zfk ?_;exact zz.out):A:=k ⟨h⟩
theorem ZaR (h:B) (k:Zh B→A:=by intro zz;refine Zf4 ?_;refine ZbA ?_;exact zz.out):A:=k ⟨h⟩
theorem ZaS (h:B) (k:Zh B→A:=by intro zz;refine ZW ?_;refine Za2 ?_;exact zz.out):A:=k ⟨h⟩
theorem ZaT (h:B) (k:Zh B→A:=by intro zz;refine Zf5 ?_;refine Zar ?_;exact zz.out):A:=k ⟨h⟩
theorem ZaU (h:B) (k:Zh B→A:=by intro zz;refine ZO ?_;refine Z7 ?_;exact zz.out):A:=k ⟨h⟩
theorem ZaV (h:B) (k:Zh B→A:=by intro zz;refine Zb ?_;refine Zg ?_;exact zz.out):A:=k ⟨h⟩
theorem ZaW (h:B) (k:Zh B→A:=by intro zz;refine Zq ?_;refine Zn ?_;exact zz.out):A:=k ⟨h⟩
theorem ZaX (h:B) (k:Zh B→A:=by intro zz;refine Zc3 ?_;refine Zg ?_;exact zz.out):A:=k ⟨h⟩
theorem ZaY (h:B) (k:Zh B→A:=by intro zz;refine Zd ?_;refine ZbI ?_;exact zz.out):A:=k ⟨h⟩
theorem Za3 (h:B) (k:Zh B→A:=by intro zz;refine ZU ?_;refine ZdT ?_;exact zz.out):A:=k ⟨h⟩
theorem Za4 (h:B) (k:Zh B→A:=by intro zz;refine Zt ?_;refine ZR ?_;exact zz.out):A:=k ⟨h⟩
theorem Za5 (h:B) (k:Zh B→A:=by intro zz;refine Zt ?_;refine Zn ?_;exact zz.out):A:=k ⟨h⟩
theorem Za6 (h:B) (k:Zh B→A:=by intro zz;refine Zco ?_;refine Zo ?_;exact zz.out):A:=k ⟨h⟩
theorem Zc5 (h:B) (k:Zh B→A:=by intro zz;refine Zan ?_;refine ZdP ?_;exact zz.out):A:=k ⟨h⟩
theorem Za7 (h:B) (k:Zh B→A:=by intro zz;refine ZI ?_;refine Zao ?_;exact zz.out):A:=k ⟨h⟩
theorem ZdV (h:B) (k:Zh B→A:=by intro zz;refine Zy ?_;refine Zbl ?_;exact zz.out):A:=k ⟨h⟩
theorem Za8 (h:B) (k:Zh B→A:=by intro zz;refine Zl ?_;refine Zg ?_;exact zz.out):A:=k ⟨h⟩
theorem Zh8 (h:B) (k:Zh B→A:=by intro zz;refine Zu ?_;refine ZJ ?_;exact zz.out):A:=k ⟨h⟩
theorem Zga (h:B) (k:Zh B→A:=by intro zz;refine ZcA ?_;refine Zag ?_;exact zz.out):A:=k ⟨h⟩
theorem Zbg (h:B) (k:Zh B→A:=by intro zz;refine Zb ?_;refine ZH ?_;exact zz.out):A:=k ⟨h⟩
theorem Zc6 (h:B) (k:Zh B→A:=by intro zz;refine ZW ?_;refine Zau ?_;exact zz.out):A:=k ⟨h⟩
theorem ZgO (h:B) (k:Zh B→A:=by intro zz;refine ZdP ?_;refine Zcy ?_;exact zz.out):A:=k ⟨h⟩
theorem Zbh (h:B) (k:Zh B→A:=by intro zz;refine Zq ?_;refine ZR ?_;exact zz.out):A:=k ⟨h⟩
theorem Zbi (h:B) (k:Zh B→A:=by intro zz;refine Z5 ?_;refine Zai ?_;exact zz.out):A:=k ⟨h⟩
theorem Zbj (h:B) (k:Zh B→A:=by intro zz;refine ZdU ?_;refine Zbs ?_;exact zz.out):A:=k ⟨h⟩
theorem Zfa (h:B) (k:Zh B→A:=by intro zz;refine Zcx ?_;refine Zcx ?_;exact zz.out):A:=k ⟨h⟩
theorem Zc7 (h:B) (k:Zh B→A:=by intro zz;refine Z3 ?_;refine Zfm ?_;exact zz.out):A:=k ⟨h⟩
theorem Zbt (h:B) (k:Zh B→A:=by intro zz;refine ZbJ ?_;refine ZA ?_;exact zz.out):A:=k ⟨h⟩
theorem Zbu (h:B) (k:Zh B→A:=by intro zz;refine Zb ?_;refine Zm ?_;exact zz.out):A:=k ⟨h⟩
theorem Zbv (h:B) (k:Zh B→A:=by intro zz;refine Zk ?_;refine Zm ?_;exact zz.out):A:=k ⟨h⟩
theorem Zbw (h:B) (k:Zh B→A:=by intro zz;refine Za9 ?_;refine Zb3 ?_;exact zz.out):A:=k ⟨h⟩
theorem Zbx (h:B) (k:Zh B→A:=by intro zz;refine Za9 ?_;refine Zam ?_;exact zz.out):A:=k ⟨h⟩
theorem Zby (h:B) (k:Zh B→A:=by intro zz;refine Zif ?_;refine Zc ?_;exact zz.out):A:=k ⟨h⟩
theorem ZdW (h:B) (k:Zh B→A:=by intro zz;refine Ze9 ?_;refine ZaJ ?_;exact zz.out):A:=k ⟨h⟩
theorem Zbz (h:B) (k:Zh B→A:=by intro zz;refine Zco ?_;refine Zc ?_;exact zz.out):A:=k ⟨h⟩
theorem Zfb (h:B) (k:Zh B→A:=by intro zz;refine ZD ?_;refine ZbL ?_;exact zz.out):A:=k ⟨h⟩
theorem Zfc (h:B) (k:Zh B→A:=by intro zz;refine ZcC ?_;refine Z2 ?_;exact zz.out):A:=k ⟨h⟩
theorem ZbQ (h:B) (k:Zh B→A:=by intro zz;refine ZaO ?_;refine Zr ?_;exact zz.out):A:=k ⟨h⟩
theorem ZbR (h:B) (k:Zh B→A:=by intro zz;refine Zm ?_;refine Zi ?_;exact zz.out):A:=k ⟨h⟩
theorem ZbS (h:B) (k:Zh B→A:=by intro zz;refine Zs ?_;refine ZU ?_;exact zz.out):A:=k ⟨h⟩
theorem ZbT (h:B) (k:Zh B→A:=by intro zz;refine Zp ?_;refine Zi ?_;exact zz.out):A:=k ⟨h⟩
theorem ZbU (h:B) (k:Zh B→A:=by intro zz;refine Zba ?_;refine ZgO ?_;exact zz.out):A:=k ⟨h⟩
theorem Zfd (h:B) (k:Zh B→A:=by intro zz;refine ZV ?_;refine Zl ?_;exact zz.out):A:=k ⟨h⟩
theorem ZbV (h:B) (k:Zh B→A:=by intro zz;refine Zas ?_;refine Zax ?_;exact zz.out):A:=k ⟨h⟩
theorem Zfe (h:B) (k:Zh B→A:=by intro zz;refine Zs ?_;refine Zfl ?_;refine Zfl ?_;exact zz.out):A:=k ⟨h⟩
theorem ZbW (h:B) (k:Zh B→A:=by intro zz;refine ZdS ?_;refine ZK ?_;exact zz.out):A:=k ⟨h⟩
theorem Zh9 (h:B) (k:Zh B→A:=by intro zz;refine ZF ?_;refine Zc ?_;exact zz.out):A:=k ⟨h⟩
theorem Zgb (h:B) (k:Zh B→A:=by intro zz;refine ZM ?_;refine Zfj ?_;exact zz.out):A:=k ⟨h⟩
theorem ZbX (h:B) (k:Zh B→A:=by intro zz;refine Zh7 ?_;refine Zq ?_;exact zz.out):A:=k ⟨h⟩
theorem Zgc (h:B) (k:Zh B→A:=by intro zz;refine Zc4 ?_;refine Zfj ?_;refine Zx ?_;exact zz.out):A:=k ⟨h⟩
theorem ZbY (h:B) (k:Zh B→A:=by intro zz;refine Zi ?_;refine Zig ?_;exact zz.out):A:=k ⟨h⟩
theorem Zff (h:B) (k:Zh B→A:=by intro zz;refine Zk ?_;refine Zac ?_;exact zz.out):A:=k ⟨h⟩
theorem ZbZ (h:B) (k:Zh B→A:=by intro zz;refine Zh6 ?_;refine Zbp ?_;exact zz.out):A:=k ⟨h⟩
theorem Zfg (h:B) (k:Zh B→A:=by intro zz;refine Zd ?_;refine ZaD ?_;exact zz.out):A:=k ⟨h⟩
theorem Zb0 (h:B) (k:Zh B→A:=by intro zz;refine Zau ?_;refine Zga ?_;exact zz.out):A:=k ⟨h⟩
theorem Zgd (h:B) (k:Zh B→A:=by intro zz;refine Ze ?_;refine ZK ?_;exact zz.out):A:=k ⟨h⟩
theorem Zb1 (h:B) (k:Zh B→A:=by intro zz;refine ZH ?_;refine ZB ?_;exact zz.out):A:=k ⟨h⟩
theorem Zfh (h:B) (k:Zh B→A:=by intro zz;refine Zap ?_;refine Zc ?_;exact zz.out):A:=k ⟨h⟩
theorem Zge (h:B) (k:Zh B→A:=by intro zz;refine ZM ?_;refine ZE ?_;exact zz.out):A:=k ⟨h⟩
theorem Zcd (h:B) (k:Zh B→A:=by intro zz;refine ZL ?_;refine Zk ?_;exact zz.out):A:=k ⟨h⟩
theorem Zce (h:B) (k:Zh B→A:=by intro zz;refine Zb ?_;refine Zih ?_;exact zz.out):A:=k ⟨h⟩
theorem Zcf (h:B) (k:Zh B→A:=by intro zz;refine ZaG ?_;refine Zh9 ?_;exact zz.out):A:=k ⟨h⟩
theorem Zcg (h:B) (k:Zh B→A:=by intro zz;refine ZG ?_;refine Zc0 ?_;exact zz.out):A:=k ⟨h⟩
theorem Zch (h:B) (k:Zh B→A:=by intro zz;refine Zt ?_;refine Z2 ?_;exact zz.out):A:=k ⟨h⟩
theorem Zci (h:B) (k:Zh B→A:=by intro zz;refine ZL ?_;refine Zar ?_;exact zz.out):A:=k ⟨h⟩
theorem ZgP (h:B) (k:Zh B→A:=by intro zz;refine Zl ?_;refine Zh7 ?_;refine Zt ?_;exact zz.out):A:=k ⟨h⟩
theorem Zcj (h:B) (k:Zh B→A:=by intro zz;refine Zcz ?_;refine Zo ?_;exact zz.out):A:=k ⟨h⟩
theorem ZgQ (h:B) (k:Zh B→A:=by intro zz;refine ZcD ?_;refine Z6 ?_;exact zz.out):A:=k ⟨h⟩
theorem Zck (h:B) (k:Zh B→A:=by intro zz;refine ZaD ?_;refine ZN ?_;exact zz.out):A:=k ⟨h⟩
theorem Zcl (h:B) (k:Zh B→A:=by intro zz;refine ZZ ?_;refine ZQ ?_;exact zz.out):A:=k ⟨h⟩
theorem Zcm (h:B) (k:Zh B→A:=by intro zz;refine Ze ?_;refine ZB ?_;exact zz.out):A:=k ⟨h⟩
theorem Zcn (h:B) (k:Zh B→A:=by intro zz;refine ZaB ?_;refine Zbb ?_;exact zz.out):A:=k ⟨h⟩
theorem ZcE (h:B) (k:Zh B→A:=by intro zz;refine Zk ?_;refine Zl ?_;exact zz.out):A:=k ⟨h⟩
theorem Zia (h:B) (k:Zh B→A:=by intro zz;refine ZY ?_;refine Zx ?_;exact zz.out):A:=k ⟨h⟩
theorem ZcF (h:B) (k:Zh B→A:=by intro zz;refine Zfn ?_;refine Zc ?_;exact zz.out):A:=k ⟨h⟩
theorem ZcG (h:B) (k:Zh B→A:=by intro zz;refine Zr ?_;refine Zbp ?_;exact zz.out):A:=k ⟨h⟩
theorem ZcH (h:B) (k:Zh B→A:=by intro zz;refine Zr ?_;refine Za0 ?_;exact zz.out):A:=k ⟨h⟩
theorem ZcI (h:B) (k:Zh B→A:=by intro zz;refine ZdV ?_;refine Zd ?_;exact zz.out):A:=k ⟨h⟩
theorem ZcJ (h:B) (k:Zh B→A:=by intro zz;refine Zk ?_;refine ZW ?_;exact zz.out):A:=k ⟨h⟩
theorem ZcK (h:B) (k:Zh B→A:=by intro zz;refine Za1 ?_;refine Zfa ?_;exact zz.out):A:=k ⟨h⟩
theorem ZcL (h:B) (k:Zh B→A:=by intro zz;refine Zgf ?_;refine Zaq ?_;exact zz.out):A:=k ⟨h⟩
theorem ZcM (h:B) (k:Zh B→A:=by intro zz;refine Ze ?_;refine Zy ?_;exact zz.out):A:=k ⟨h⟩
theorem ZcN (h:B) (k:Zh B→A:=by intro zz;refine Zn ?_;refine ZbI ?_;exact zz.out):A:=k ⟨h⟩
theorem ZgR (h:B) (k:Zh B→A:=by intro zz;refine Zb5 ?_;refine Zfk ?_;exact zz.out):A:=k ⟨h⟩
theorem Zc8 (h:B) (k:Zh B→A:=by intro zz;refine ZbJ ?_;refine ZbM ?_;exact zz.out):A:=k ⟨h⟩
theorem Zc9 (h:B) (k:Zh B→A:=by intro zz;refine Zk ?_;refine ZC ?_;exact zz.out):A:=k ⟨h⟩
theorem Zda (h:B) (k:Zh B→A:=by intro zz;refine Zk ?_;refine Zbo ?_;exact zz.out):A:=k ⟨h⟩
theorem Zdb (h:B) (k:Zh B→A:=by intro zz;refine Zb ?_;refine ZP ?_;exact zz.out):A:=k ⟨h⟩
theorem Zdc (h:B) (k:Zh B→A:=by intro zz;refine ZR ?_;refine ZP ?_;exact zz.out):A:=k ⟨h⟩
theorem Zdd (h:B) (k:Zh B→A:=by intro zz;refine Zb ?_;refine Zar ?_;exact zz.out):A:=k ⟨h⟩
theorem Zde (h:B) (k:Zh B→A:=by intro zz;refine Zaj ?_;refine Zah ?_;exact zz.out):A:=k ⟨h⟩
theorem Zdf (h:B) (k:Zh B→A:=by intro zz;refine ZaL ?_;refine ZQ ?_;exact zz.out):A:=k ⟨h⟩
theorem Zdg (h:B) (k:Zh B→A:=by intro zz;refine ZbN ?_;refine Zn ?_;exact zz.out):A:=k ⟨h⟩
theorem Zdh (h:B) (k:Zh B→A:=by intro zz;refine Zb ?_;refine Zu ?_;exact zz.out):A:=k ⟨h⟩
theorem Zdi (h:B) (k:Zh B→A:=by intro zz;refine ZI ?_;refine Zia ?_;exact zz.out):A:=k ⟨h⟩
theorem Zdj (h:B) (k:Zh B→A:=by intro zz;refine Zdx ?_;refine Zax ?_;exact zz.out):A:=k ⟨h⟩
theorem Zdk (h:B) (k:Zh B→A:=by intro zz;refine Zb2 ?_;refine Za9 ?_;exact zz.out):A:=k ⟨h⟩
theorem Zdl (h:B) (k:Zh B→A:=by intro zz;refine Zav ?_;refine ZI ?_;exact zz.out):A:=k ⟨h⟩
theorem Zdm (h:B) (k:Zh B→A:=by intro zz;refine ZG ?_;refine Zb3 ?_;exact zz.out):A:=k ⟨h⟩
theorem Zdn (h:B) (k:Zh B→A:=by intro zz;refine Zcc ?_;refine Zc5 ?_;exact zz.out):A:=k ⟨h⟩
theorem Zdo (h:B) (k:Zh B→A:=by intro zz;refine ZaK ?_;refine Zfj ?_;refine Zgb ?_;exact zz.out):A:=k ⟨h⟩
theorem Zdp (h:B) (k:Zh B→A:=by intro zz;refine ZgP ?_;refine Zgc ?_;exact zz.out):A:=k ⟨h⟩
theorem Zib (h:B) (k:Zh B→A:=by intro zz;refine Zdw ?_;refine Zd ?_;exact zz.out):A:=k ⟨h⟩
theorem Zdq (h:B) (k:Zh B→A:=by intro zz;refine Zo ?_;refine Zm ?_;exact zz.out):A:=k ⟨h⟩
theorem Zdr (h:B) (k:Zh B→A:=by intro zz;refine Zfc ?_;refine Zh8 ?_;exact zz.out):A:=k ⟨h⟩
theorem Zds (h:B) (k:Zh B→A:=by intro zz;refine ZgQ ?_;refine Zfb ?_;exact zz.out):A:=k ⟨h⟩
theorem Zic (h:B) (k:Zh B→A:=by intro zz;refine ZeE ?_;refine Zgd ?_;exact zz.out):A:=k ⟨h⟩
theorem Zdt (h:B) (k:Zh B→A:=by intro zz;refine ZbK ?_;refine ZK ?_;exact zz.out):A:=k ⟨h⟩
theorem Zdu (h:B) (k:Zh B→A:=by intro zz;refine Zo ?_;refine Zii ?_;exact zz.out):A:=k ⟨h⟩
theorem Zdv (h:B) (k:Zh B→A:=by intro zz;refine Zd ?_;refine Zij ?_;exact zz.out):A:=k ⟨h⟩
theorem Zid (h:B) (k:Zh B→A:=by intro zz;refine Zas ?_;refine Zf9 ?_;exact zz.out):A:=k ⟨h⟩
theorem ZdX (h:B) (k:Zh B→A:=by intro zz;refine Zac ?_;refine ZE ?_;exact zz.out):A:=k ⟨h⟩
theorem ZdY (h:B) (k:Zh B→A:=by intro zz;refine ZR ?_;refine Z8 ?_;exact zz.out):A:=k ⟨h⟩
theorem ZdZ (h:B) (k:Zh B→A:=by intro zz;refine Zg ?_;refine Zo ?_;exact zz.out):A:=k ⟨h⟩
theorem Zd0 (h:B) (k:Zh B→A:=by intro zz;refine ZdQ ?_;refine Zik ?_;exact zz.out):A:=k ⟨h⟩
theorem Zd1 (h:B) (k:Zh B→A:=by intro zz;refine ZaH ?_;refine Zm ?_;exact zz.out):A:=k ⟨h⟩
theorem Zd2 (h:B) (k:Zh B→A:=by intro zz;refine Zba ?_;refine ZA ?_;exact zz.out):A:=k ⟨h⟩
theorem Zd3 (h:B) (k:Zh B→A:=by intro zz;refine Zb ?_;refine Z8 ?_;exact zz.out):A:=k ⟨h⟩
theorem Zd4 (h:B) (k:Zh B→A:=by intro zz;refine ZO ?_;refine Zge ?_;exact zz.out):A:=k ⟨h⟩
theorem Zd5 (h:B) (k:Zh B→A:=by intro zz;refine ZY ?_;refine Zan ?_;exact zz.out):A:=k ⟨h⟩
theorem Zd6 (h:B) (k:Zh B→A:=by intro zz;refine Zau ?_;refine ZdP ?_;exact zz.out):A:=k ⟨h⟩
theorem Zd7 (h:B) (k:Zh B→A:=by intro zz;refine Zm ?_;refine Zo ?_;exact zz.out):A:=k ⟨h⟩
theorem Zd8 (h:B) (k:Zh B→A:=by intro zz;refine Zd ?_;refine Zg ?_;exact zz.out):A:=k ⟨h⟩
theorem Zd9 (h:B) (k:Zh B→A:=by intro zz;refine ZbK ?_;refine Zb4 ?_;exact zz.out):A:=k ⟨h⟩
theorem Zea (h:B) (k:Zh B→A:=by intro zz;refine ZaD ?_;refine Zdy ?_;exact zz.out):A:=k ⟨h⟩
theorem Zeb (h:B) (k:Zh B→A:=by intro zz;refine ZE ?_;refine Zd ?_;exact zz.out):A:=k ⟨h⟩
theorem Zec (h:B) (k:Zh B→A:=by intro zz;refine ZdS ?_;refine Zb4 ?_;exact zz.out):A:=k ⟨h⟩
theorem Zed (h:B) (k:Zh B→A:=by intro zz;refine Zau ?_;refine ZE ?_;exact zz.out):A:=k ⟨h⟩
theorem Zee (h:B) (k:Zh B→A:=by intro zz;refine Zav ?_;refine Zad ?_;exact zz.out):A:=k ⟨h⟩
theorem Zef (h:B) (k:Zh B→A:=by intro zz;refine ZX ?_;refine ZbI ?_;exact zz.out):A:=k ⟨h⟩
theorem Zeg (h:B) (k:Zh B→A:=by intro zz;refine Zb ?_;refine ZW ?_;exact zz.out):A:=k ⟨h⟩
theorem Zeh (h:B) (k:Zh B→A:=by intro zz;refine ZY ?_;refine Zdz ?_;exact zz.out):A:=k ⟨h⟩
theorem Zei (h:B) (k:Zh B→A:=by intro zz;refine ZU ?_;refine ZeF ?_;exact zz.out):A:=k ⟨h⟩
theorem Zej (h:B) (k:Zh B→A:=by intro zz;refine ZcP ?_;refine Zfe ?_;refine ZbO ?_;refine Zu ?_;exact zz.out):A:=k ⟨h⟩
theorem Zek (h:B) (k:Zh B→A:=by intro zz;refine ZaP ?_;refine Zil ?_;refine ZeG ?_;exact zz.out):A:=k ⟨h⟩
theorem Zel (h:B) (k:Zh B→A:=by intro zz;refine Zff ?_;refine Zba ?_;refine Zib ?_;refine Zc6 ?_;refine Zan ?_;refine Zdw ?_;exact zz.out):A:=k ⟨h⟩
theorem Zem (h:B) (k:Zh B→A:=by intro zz;refine ZeH ?_;refine ZE ?_;exact zz.out):A:=k ⟨h⟩
theorem Zen (h:B) (k:Zh B→A:=by intro zz;refine Zq ?_;refine Zad ?_;exact zz.out):A:=k ⟨h⟩
theorem Zeo (h:B) (k:Zh B→A:=by intro zz;refine ZbP ?_;refine Zc7 ?_;exact zz.out):A:=k ⟨h⟩
theorem Zep (h:B) (k:Zh B→A:=by intro zz;refine ZdW ?_;refine ZaJ ?_;exact zz.out):A:=k ⟨h⟩
theorem Zeq (h:B) (k:Zh B→A:=by intro zz;refine Zx ?_;refine ZN ?_;exact zz.out):A:=k ⟨h⟩
theorem Zer (h:B) (k:Zh B→A:=by intro zz;refine Zic ?_;refine ZeE ?_;exact zz.out):A:=k ⟨h⟩
theorem Zes (h:B) (k:Zh B→A:=by intro zz;refine Zj ?_;refine Zim ?_;exact zz.out):A:=k ⟨h⟩
theorem Zet (h:B) (k:Zh B→A:=by intro zz;refine ZdA ?_;refine Zc ?_;exact zz.out):A:=k ⟨h⟩
theorem Zeu (h:B) (k:Zh B→A:=by intro zz;refine Zcz ?_;refine Zfh ?_;exact zz.out):A:=k ⟨h⟩
theorem Zev (h:B) (k:Zh B→A:=by intro zz;refine ZcB ?_;refine ZB ?_;exact zz.out):A:=k ⟨h⟩
theorem Zew (h:B) (k:Zh B→A:=by intro zz;refine ZX ?_;refine Zh8 ?_;exact zz.out):A:=k ⟨h⟩
theorem Zex (h:B) (k:Zh B→A:=by intro zz;refine Zcy ?_;refine Zao ?_;exact zz.out):A:=k ⟨h⟩
theorem Zey (h:B) (k:Zh B→A:=by intro zz;refine ZcB ?_;refine Zz ?_;exact zz.out):A:=k ⟨h⟩
theorem Zez (h:B) (k:Zh B→A:=by intro zz;refine Zcb ?_;refine Zw ?_;exact zz.out):A:=k ⟨h⟩
theorem ZeA (h:B) (k:Zh B→A:=by intro zz;refine ZaM ?_;refine Zc ?_;exact zz.out):A:=k ⟨h⟩
theorem ZeB (h:B) (k:Zh B→A:=by intro zz;refine Zco ?_;refine Zbq ?_;exact zz.out):A:=k ⟨h⟩
theorem ZeC (h:B) (k:Zh B→A:=by intro zz;refine Zfg ?_;refine Zin ?_;refine ZB ?_;refine Zfd ?_;refine ZgS ?_;exact zz.out):A:=k ⟨h⟩
theorem ZeD (h:B) (k:Zh B→A:=by intro zz;refine Zid ?_;refine Zf9 ?_;refine Zbm ?_;refine ZgR ?_;refine ZF ?_;exact zz.out):A:=k ⟨h⟩
theorem Ya (k:A:=by omega):A:=k
theorem Yb (k:A:=by conv=>lhs;whnf):A:=k
theorem Yc (k:A:=by kernel_rfl):A:=k
theorem Yd (k:A:=by simp):A:=k
theorem Ye (k:A:=by assumption):A:=k
theorem Yf (k:A:=by decide):A:=k
theorem Yg (k:A:=by repeat constructor):A:=k
theorem Yh (k:A:=by simp;omega):A:=k
theorem Yi (k:A:=by simp only [Ts.nodes];omega):A:=k
theorem Yj (k:A:=by simp only [List.length_append,List.length_cons,List.length_nil];omega):A:=k
end Go.Proofs.YthliapbflkfdiacGreatDoor
