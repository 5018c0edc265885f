/- Steps of the proof. -/
import Derived.KernelRfl
namespace Go.Proofs.YthliapbflkfdiacGreatDoor
structure Zh (B:Prop):Prop where
 out:B
variable {A B:Prop}
theorem Zp (h:B) (k:Zh B→A:=by intro zz;refine QrM ?_;exact zz.out):A:=k ⟨h⟩
theorem Zc (h:B) (k:Zh B→A:=by intro zz;refine Qrv ?_;exact zz.out):A:=k ⟨h⟩
theorem Zaz (h:B) (k:Zh B→A:=by intro zz;refine Ql7 ?_;exact zz.out):A:=k ⟨h⟩
theorem Ze (h:B) (k:Zh B→A:=by intro zz;refine Qa (QeH Yq) rfl ?_;exact zz.out):A:=k ⟨h⟩
theorem Zct (h:B) (k:Zh B→A:=by intro zz;refine Qa (QdK Yq) rfl ?_;exact zz.out):A:=k ⟨h⟩
theorem Zi (h:B) (k:Zh B→A:=by intro zz;refine QpZ rfl rfl ?_;exact zz.out):A:=k ⟨h⟩
theorem ZeS (h:B) (k:Zh B→A:=by intro zz;refine Qix rfl ?_;exact zz.out):A:=k ⟨h⟩
theorem Zcu (h:B) (k:Zh B→A:=by intro zz;refine Qqf ?_;exact zz.out):A:=k ⟨h⟩
theorem Zbq (h:B) (k:Zh B→A:=by intro zz;refine Qru rfl rfl rfl ?_;exact zz.out):A:=k ⟨h⟩
theorem Za9 (h:B) (k:Zh B→A:=by intro zz;refine QkR rfl ?_;exact zz.out):A:=k ⟨h⟩
theorem Za (h:B) (k:Zh B→A:=by intro zz;refine ⟨_,rfl,?_⟩;exact zz.out):A:=k ⟨h⟩
theorem Z3 (h:B) (k:Zh B→A:=by intro zz;refine Qa (Qf (off:=0) rfl rfl) rfl ?_;exact zz.out):A:=k ⟨h⟩
theorem Zb (h:B) (k:Zh B→A:=by intro zz;refine QdQ hS rfl Yq rfl rfl Ym Yp Ym ?_;exact zz.out):A:=k ⟨h⟩
theorem Zr (h:B) (k:Zh B→A:=by intro zz;(first|refine Qa (Qh1 rfl Yq) rfl ?_|refine Qa (Qh2 rfl Yq) rfl ?_);exact zz.out):A:=k ⟨h⟩
theorem Zcv (h:B) (k:Zh B→A:=by intro zz;refine Qoq ?_;exact zz.out):A:=k ⟨h⟩
theorem ZB (h:B) (k:Zh B→A:=by intro zz;refine Qa (QaO rfl) rfl ?_;exact zz.out):A:=k ⟨h⟩
theorem ZH (h:B) (k:Zh B→A:=by intro zz;(first|refine Qa (QlD rfl rfl YG) rfl ?_|refine Qa (QnZ rfl rfl YG) rfl ?_|refine Qa (rfl) rfl ?_);exact zz.out):A:=k ⟨h⟩
theorem Zm (h:B) (k:Zh B→A:=by intro zz;(first|refine Qa (Qe hS rfl rfl Ym Yp) rfl ?_|refine Qa (Qi rfl rfl Y3) rfl ?_);exact zz.out):A:=k ⟨h⟩
theorem Zk (h:B) (k:Zh B→A:=by intro zz;(first|refine Qa (Qbg rfl rfl) rfl ?_|refine Qa (Qfg rfl rfl Yan) rfl ?_|refine Qa (Qeg rfl rfl YG) rfl ?_|refine Qa (rfl) rfl ?_);exact zz.out):A:=k ⟨h⟩
theorem Zj (h:B) (k:Zh B→A:=by intro zz;refine Qb8 (QdJ YN (Qsm Yq Yq)) rfl ?_;exact zz.out):A:=k ⟨h⟩
theorem ZO (h:B) (k:Zh B→A:=by intro zz;refine Qa (QbT rfl rfl rfl) rfl ?_;exact zz.out):A:=k ⟨h⟩
theorem ZC (h:B) (k:Zh B→A:=by intro zz;refine Qb7 (by first|exact hS|exact hS.drop|exact hS.drop.drop|exact hS.drop.drop.drop|exact hS.unlearn|exact hS.unlearn.drop|exact hS.unlearn.drop.drop) ?_;exact zz.out):A:=k ⟨h⟩
theorem ZV (h:B) (k:Zh B→A:=by intro zz;refine Qa (Qf (off:=1) rfl rfl) rfl ?_;exact zz.out):A:=k ⟨h⟩
theorem ZX (h:B) (k:Zh B→A:=by intro zz;refine Qrn rfl ?_;exact zz.out):A:=k ⟨h⟩
theorem ZQ (h:B) (k:Zh B→A:=by intro zz;refine Qa (Qpl rfl rfl YG YG) rfl ?_;exact zz.out):A:=k ⟨h⟩
theorem ZD (h:B) (k:Zh B→A:=by intro zz;refine Qd rfl (fun _ hS=>QeH Yq) rfl ?_;exact zz.out):A:=k ⟨h⟩
theorem ZeT (h:B) (k:Zh B→A:=by intro zz;refine Qa (QgR rfl rfl) rfl ?_;exact zz.out):A:=k ⟨h⟩
theorem ZE (h:B) (k:Zh B→A:=by intro zz;refine Qa (rfl) rfl ?_;exact zz.out):A:=k ⟨h⟩
theorem ZG (h:B) (k:Zh B→A:=by intro zz;refine Qca (cs:=[_,_,_,_]) hS rfl rfl rfl ?_;exact zz.out):A:=k ⟨h⟩
theorem ZaL (h:B) (k:Zh B→A:=by intro zz;refine QkU ?_;exact zz.out):A:=k ⟨h⟩
theorem ZfA (h:B) (k:Zh B→A:=by intro zz;refine QpY rfl rfl ?_;exact zz.out):A:=k ⟨h⟩
theorem ZaA (h:B) (k:Zh B→A:=by intro zz;(first|refine Qa (Qe hS rfl rfl Ym Yp) rfl ?_|refine Qa (Qi rfl rfl (by first|assumption|exact (hcc _ hS).1|exact (hcc _ hS).2.1|exact (hcc _ hS).2.2.1|exact (hcc _ hS).2.2.2|exact hS.cell0 Yo|exact lv_next hS|exact lv_list hS)) rfl ?_);exact zz.out):A:=k ⟨h⟩
theorem ZaW (h:B) (k:Zh B→A:=by intro zz;refine Qqg rfl ?_;exact zz.out):A:=k ⟨h⟩
theorem Zam (h:B) (k:Zh B→A:=by intro zz;refine Qa (Qf (off:=2) rfl rfl) rfl ?_;exact zz.out):A:=k ⟨h⟩
theorem ZaX (h:B) (k:Zh B→A:=by intro zz;refine Qs6 hS rfl rfl ?_;exact zz.out):A:=k ⟨h⟩
theorem Zo (h:B) (k:Zh B→A:=by intro zz;(first|refine Qa (Qb5 rfl rfl) rfl ?_|refine Qa (Qh3 rfl rfl Yan) rfl ?_|refine Qa (QgL rfl rfl YG) rfl ?_|refine Qa (rfl) rfl ?_);exact zz.out):A:=k ⟨h⟩
theorem ZI (h:B) (k:Zh B→A:=by intro zz;(first|refine Qa (Qe hS rfl rfl Ym Yp) rfl ?_|refine Qa (Qi rfl rfl Yab) rfl ?_);exact zz.out):A:=k ⟨h⟩
theorem Z1 (h:B) (k:Zh B→A:=by intro zz;refine Qd rfl (fun _ hS=>Qf (off:=0) rfl rfl) rfl ?_;exact zz.out):A:=k ⟨h⟩
theorem Zef (h:B) (k:Zh B→A:=by intro zz;refine Qrm ?_;exact zz.out):A:=k ⟨h⟩
theorem Zs (h:B) (k:Zh B→A:=by intro zz;refine Qb8 (QdJ YN (Qsn Yq)) rfl ?_;exact zz.out):A:=k ⟨h⟩
theorem Zbr (h:B) (k:Zh B→A:=by intro zz;(first|refine Qa (QsO rfl rfl YG YG) rfl ?_|refine Qa (run_sub_u8 rfl rfl) rfl ?_);exact zz.out):A:=k ⟨h⟩
theorem ZbT (h:B) (k:Zh B→A:=by intro zz;refine Qd rfl (fun _ hS=>QaO rfl) rfl ?_;exact zz.out):A:=k ⟨h⟩
theorem ZS (h:B) (k:Zh B→A:=by intro zz;refine Qa (QA (sz:=1) rfl rfl rfl rfl YG YG) rfl ?_;exact zz.out):A:=k ⟨h⟩
theorem Z4 (h:B) (k:Zh B→A:=by intro zz;(first|refine Qa (Qh6 rfl rfl Yo) rfl ?_|refine Qa (Qh7 rfl rfl Yo) rfl ?_|refine Qa (QgS rfl rfl) rfl ?_|refine Qa (rfl) rfl ?_);exact zz.out):A:=k ⟨h⟩
theorem ZY (h:B) (k:Zh B→A:=by intro zz;refine QsX ?_;exact zz.out):A:=k ⟨h⟩
theorem Zba (h:B) (k:Zh B→A:=by intro zz;refine Qa (Qf (off:=3) rfl rfl) rfl ?_;exact zz.out):A:=k ⟨h⟩
theorem Z5 (h:B) (k:Zh B→A:=by intro zz;(first|refine Qa (QgP rfl rfl YG) rfl ?_|refine Qa (Qh4 rfl rfl YG) rfl ?_|refine Qa (rfl) rfl ?_);exact zz.out):A:=k ⟨h⟩
theorem Zy (h:B) (k:Zh B→A:=by intro zz;refine Qaq hS rfl Yq rfl rfl Ym Yp Ym ?_;exact zz.out):A:=k ⟨h⟩
theorem ZaM (h:B) (k:Zh B→A:=by intro zz;(first|refine Qa (QgQ rfl rfl YG) rfl ?_|refine Qa (Qh5 rfl rfl YG) rfl ?_|refine Qa (rfl) rfl ?_);exact zz.out):A:=k ⟨h⟩
theorem Zab (h:B) (k:Zh B→A:=by intro zz;refine Qb8 (QdJ YN (Qsl Yq Yq Yq)) rfl ?_;exact zz.out):A:=k ⟨h⟩
theorem ZaY (h:B) (k:Zh B→A:=by intro zz;refine Qh rfl (fun _ hS=>QeH Yq) rfl ?_;exact zz.out):A:=k ⟨h⟩
theorem ZeU (h:B) (k:Zh B→A:=by intro zz;refine Qro rfl rfl rfl rfl ?_;exact zz.out):A:=k ⟨h⟩
theorem Z6 (h:B) (k:Zh B→A:=by intro zz;refine Qa (QA (sz:=3) rfl rfl rfl rfl YG YG) rfl ?_;exact zz.out):A:=k ⟨h⟩
theorem Z2 (h:B) (k:Zh B→A:=by intro zz;(first|refine Qa (Qe hS rfl rfl Ym Yp) rfl ?_|refine Qa (Qi rfl rfl (by first|assumption|exact (hpc hF0 _ hS).1|exact (hpc hF0 _ hS).2.1|exact (hpc hF0 _ hS).2.2.1|exact (hpc hF0 _ hS).2.2.2.1|exact (hpc hF0 _ hS).2.2.2.2.1|exact (hpc hF0 _ hS).2.2.2.2.2|exact hS.cell0 Yo|exact lv_next hS|exact lv_list hS)) rfl ?_);exact zz.out):A:=k ⟨h⟩
theorem Z7 (h:B) (k:Zh B→A:=by intro zz;refine Qca (cs:=[_,_,_]) hS rfl rfl rfl ?_;exact zz.out):A:=k ⟨h⟩
theorem Zaf (h:B) (k:Zh B→A:=by intro zz;(first|refine Qa (Qb (k:=2) hS rfl rfl rfl Ym Yp) rfl ?_|refine Qa (Qb (k:=2) hS rfl rfl rfl Ym Yo) rfl ?_|refine Qa (QaP rfl rfl rfl Yz Yz) rfl ?_);exact zz.out):A:=k ⟨h⟩
theorem ZeV (h:B) (k:Zh B→A:=by intro zz;(first|refine Qd rfl (fun _ hS=>Qe hS rfl rfl Ym Yp) rfl ?_|refine Qd rfl (fun _ hS=>Qi rfl rfl Y8) rfl ?_);exact zz.out):A:=k ⟨h⟩
theorem Zar (h:B) (k:Zh B→A:=by intro zz;refine Qa (QA (sz:=4) rfl rfl rfl rfl YG YG) rfl ?_;exact zz.out):A:=k ⟨h⟩
theorem Zcw (h:B) (k:Zh B→A:=by intro zz;(first|refine Qa (Qe hS rfl rfl Ym Yp) rfl ?_|refine Qa (Qi rfl rfl YO) rfl ?_);exact zz.out):A:=k ⟨h⟩
theorem Zgo (h:B) (k:Zh B→A:=by intro zz;refine Calls.mono (Qcf E y _ hE.rd hry hE.ok hS) ?_;exact zz.out):A:=k ⟨h⟩
theorem Zc7 (h:B) (k:Zh B→A:=by intro zz;refine Qd rfl (fun _ hS=>Qf (off:=2) rfl rfl) rfl ?_;exact zz.out):A:=k ⟨h⟩
theorem ZW (h:B) (k:Zh B→A:=by intro zz;refine QsY rfl ?_;exact zz.out):A:=k ⟨h⟩
theorem ZaZ (h:B) (k:Zh B→A:=by intro zz;(first|refine Qa (Qb (k:=4) hS rfl rfl rfl Ym Yp) rfl ?_|refine Qa (Qb (k:=4) hS rfl rfl rfl Ym Yo) rfl ?_|refine Qa (QQ rfl rfl rfl YL YL YL YL) rfl ?_);exact zz.out):A:=k ⟨h⟩
theorem ZbU (h:B) (k:Zh B→A:=by intro zz;refine Qg Tryz.func104 rfl Yq ?_;exact zz.out):A:=k ⟨h⟩
theorem Zcx (h:B) (k:Zh B→A:=by intro zz;refine Qh rfl (fun _ hS=>QgR rfl rfl) rfl ?_;exact zz.out):A:=k ⟨h⟩
theorem Zc8 (h:B) (k:Zh B→A:=by intro zz;refine Qa (Qf (off:=5) rfl rfl) rfl ?_;exact zz.out):A:=k ⟨h⟩
theorem Zac (h:B) (k:Zh B→A:=by intro zz;(first|refine Qd rfl (fun _ hS=>Qe hS rfl rfl Ym Yp) rfl ?_|refine Qd rfl (fun _ hS=>Qi rfl rfl Y3) rfl ?_);exact zz.out):A:=k ⟨h⟩
theorem Zbs (h:B) (k:Zh B→A:=by intro zz;refine Qca (cs:=[_,_]) hS rfl rfl rfl ?_;exact zz.out):A:=k ⟨h⟩
theorem Zbt (h:B) (k:Zh B→A:=by intro zz;refine Qh rfl (fun _ hS=>QdK Yq) rfl ?_;exact zz.out):A:=k ⟨h⟩
theorem Zeg (h:B) (k:Zh B→A:=by intro zz;(first|refine Qa (Qe hS rfl rfl Ym Yp) rfl ?_|refine Qa (Qi rfl rfl (by first|assumption|exact hpa _ hS|exact hS.cell0 Yo|exact lv_next hS|exact lv_list hS)) rfl ?_);exact zz.out):A:=k ⟨h⟩
theorem Za0 (h:B) (k:Zh B→A:=by intro zz;refine Qd rfl (fun _ hS=>QA (sz:=3) rfl rfl rfl rfl YG YG) rfl ?_;exact zz.out):A:=k ⟨h⟩
theorem ZeW (h:B) (k:Zh B→A:=by intro zz;refine Qg Tryz.func186 rfl Yq ?_;exact zz.out):A:=k ⟨h⟩
theorem Zas (h:B) (k:Zh B→A:=by intro zz;refine Q5 (cells:=[_,_,_,_]) hS (.cons Yq .nil) rfl rfl ?_;exact zz.out):A:=k ⟨h⟩
theorem ZaB (h:B) (k:Zh B→A:=by intro zz;(first|refine Qa (Qb (k:=4) hS rfl rfl rfl Ym Yp) rfl ?_|refine Qa (Qb (k:=4) hS rfl rfl rfl Ym Yo) rfl ?_|refine Qa (QQ rfl rfl rfl Yz Yz Yz Yz) rfl ?_);exact zz.out):A:=k ⟨h⟩
theorem ZaC (h:B) (k:Zh B→A:=by intro zz;refine Qa (Qf (off:=4) rfl rfl) rfl ?_;exact zz.out):A:=k ⟨h⟩
theorem ZaD (h:B) (k:Zh B→A:=by intro zz;(first|refine Qa (Qe hS rfl rfl Ym Yp) rfl ?_|refine Qa (Qi rfl rfl YI) rfl ?_);exact zz.out):A:=k ⟨h⟩
theorem ZaN (h:B) (k:Zh B→A:=by intro zz;refine Qh rfl (fun _ ⟨_,hS⟩=>QeH Yq) rfl ?_;exact zz.out):A:=k ⟨h⟩
theorem ZaO (h:B) (k:Zh B→A:=by intro zz;refine Qb7 (by first|exact hS|exact hS.drop|exact hS.drop.drop|exact hS.drop.drop.drop|exact hS.unlearn|exact hS.unlearn.drop|exact hS.unlearn.drop.drop|exact hS.forget hF9|exact hS.drop.forget hF9) ?_;exact zz.out):A:=k ⟨h⟩
theorem Zc9 (h:B) (k:Zh B→A:=by intro zz;refine Calls.mono (Qcf E p.2 _ hE.rd h2 hE.ok hS) ?_;exact zz.out):A:=k ⟨h⟩
theorem Zeh (h:B) (k:Zh B→A:=by intro zz;refine QC rfl rfl rfl (fun _ hS=>QeH Yq) rfl ?_;exact zz.out):A:=k ⟨h⟩
theorem Zda (h:B) (k:Zh B→A:=by intro zz;(first|refine Qa (Qb (k:=2) hS rfl rfl rfl Ym Yp) rfl ?_|refine Qa (Qb (k:=2) hS rfl rfl rfl Ym Yo) rfl ?_|refine Qa (QaP rfl rfl rfl (by first|assumption|exact hct _ hS|exact hS.cell0 Yo) (by first|assumption|exact hct _ hS|exact hS.cell0 Yo)) rfl ?_);exact zz.out):A:=k ⟨h⟩
theorem Za1 (h:B) (k:Zh B→A:=by intro zz;refine Qd rfl (fun _ hS=>QdK Yq) rfl ?_;exact zz.out):A:=k ⟨h⟩
theorem ZhA (h:B) (k:Zh B→A:=by intro zz;refine QkS Tryz.func105 rfl Yq Yq Yq ?_;exact zz.out):A:=k ⟨h⟩
theorem Zbb (h:B) (k:Zh B→A:=by intro zz;(first|refine Qa (QnX rfl rfl Yo) rfl ?_|refine Qa (QnY rfl rfl Yo) rfl ?_|refine Qa (QlC rfl rfl) rfl ?_|refine Qa (rfl) rfl ?_);exact zz.out):A:=k ⟨h⟩
theorem Zei (h:B) (k:Zh B→A:=by intro zz;refine Calls.mono (Qcf E x _ hE.rd hrx hE.ok hS) ?_;exact zz.out):A:=k ⟨h⟩
theorem ZhB (h:B) (k:Zh B→A:=by intro zz;(first|refine Qd rfl (fun _ hS=>Qe hS rfl rfl Ym Yp) rfl ?_|refine Qd rfl (fun _ hS=>Qi rfl rfl YI) rfl ?_);exact zz.out):A:=k ⟨h⟩
theorem ZfB (h:B) (k:Zh B→A:=by intro zz;(first|refine Qa (Qb (k:=3) hS rfl rfl rfl Ym Yp) rfl ?_|refine Qa (Qb (k:=3) hS rfl rfl rfl Ym Yo) rfl ?_|refine Qa (QaV rfl rfl rfl YK YK YK) rfl ?_);exact zz.out):A:=k ⟨h⟩
theorem Zbc (h:B) (k:Zh B→A:=by intro zz;(first|refine Qa (Qe hS rfl rfl Ym Yp) rfl ?_|refine Qa (Qi rfl rfl Yas) rfl ?_);exact zz.out):A:=k ⟨h⟩
theorem Zbu (h:B) (k:Zh B→A:=by intro zz;refine Qd rfl (fun _ hS=>Qf (off:=1) rfl rfl) rfl ?_;exact zz.out):A:=k ⟨h⟩
theorem Zbv (h:B) (k:Zh B→A:=by intro zz;refine Qh rfl (fun _ hS=>Qf (off:=0) rfl rfl) rfl ?_;exact zz.out):A:=k ⟨h⟩
theorem Zbw (h:B) (k:Zh B→A:=by intro zz;refine Qg Tryz.func62 rfl Yq ?_;exact zz.out):A:=k ⟨h⟩
theorem ZhC (h:B) (k:Zh B→A:=by intro zz;(first|refine Qd rfl (fun _ hS=>Qh1 rfl Yq) rfl ?_|refine Qd rfl (fun _ hS=>Qh2 rfl Yq) rfl ?_);exact zz.out):A:=k ⟨h⟩
theorem Zbx (h:B) (k:Zh B→A:=by intro zz;(first|refine Qa (Qb (k:=2) hS rfl rfl rfl Ym Yp) rfl ?_|refine Qa (Qb (k:=2) hS rfl rfl rfl Ym Yo) rfl ?_|refine Qa (QaP rfl rfl rfl YK YK) rfl ?_);exact zz.out):A:=k ⟨h⟩
theorem Zby (h:B) (k:Zh B→A:=by intro zz;refine Q5 (cells:=[_]) hS (.cons Yq .nil) rfl rfl ?_;exact zz.out):A:=k ⟨h⟩
theorem Zgp (h:B) (k:Zh B→A:=by intro zz;refine Qa (QB (cells:=[_,_,_,_]) .nil rfl) rfl ?_;exact zz.out):A:=k ⟨h⟩
theorem ZfC (h:B) (k:Zh B→A:=by intro zz;refine Qh rfl (fun _ hS=>QA (sz:=4) rfl rfl rfl rfl YG YG) rfl ?_;exact zz.out):A:=k ⟨h⟩
theorem ZbV (h:B) (k:Zh B→A:=by intro zz;(first|refine Qa (Qe hS rfl rfl Ym Yp) rfl ?_|refine Qa (Qi rfl rfl (by first|assumption|exact hwl _ hS|exact (hcc _ hS).1|exact (hcc _ hS).2.1|exact (hcc _ hS).2.2|exact hS.cell0 Yo|exact lv_next hS|exact lv_list hS)) rfl ?_);exact zz.out):A:=k ⟨h⟩
theorem ZbW (h:B) (k:Zh B→A:=by intro zz;refine Qb7 (by first|exact hS|exact hS.drop|exact hS.drop.drop|exact hS.drop.drop.drop|exact hS.unlearn|exact hS.unlearn.drop|exact hS.unlearn.drop.drop|exact hS.forget hF8|exact hS.drop.forget hF8|exact hS.forget (fun φ h=>hF9 φ (hF8 φ h))|exact hS.drop.forget (fun φ h=>hF9 φ (hF8 φ h))) ?_;exact zz.out):A:=k ⟨h⟩
theorem ZbX (h:B) (k:Zh B→A:=by intro zz;refine Qhc (by first|exact hS.bare1|exact hS.drop.bare1|exact hS.drop.drop.bare1) ?_;exact zz.out):A:=k ⟨h⟩
theorem ZbY (h:B) (k:Zh B→A:=by intro zz;refine Qa (Qf (off:=9) rfl rfl) rfl ?_;exact zz.out):A:=k ⟨h⟩
theorem ZhD (h:B) (k:Zh B→A:=by intro zz;refine Qa (QA (sz:=6) rfl rfl rfl rfl YG YG) rfl ?_;exact zz.out):A:=k ⟨h⟩
theorem Zcy (h:B) (k:Zh B→A:=by intro zz;refine Qca (cs:=[_,_,_,_,_,_]) hS rfl rfl rfl ?_;exact zz.out):A:=k ⟨h⟩
theorem ZhE (h:B) (k:Zh B→A:=by intro zz;refine QC rfl rfl rfl (fun _ hS=>QaO rfl) rfl ?_;exact zz.out):A:=k ⟨h⟩
theorem Zcz (h:B) (k:Zh B→A:=by intro zz;(first|refine Qa (Qe hS rfl rfl Ym Yp) rfl ?_|refine Qa (Qi rfl rfl YV) rfl ?_);exact zz.out):A:=k ⟨h⟩
theorem ZcA (h:B) (k:Zh B→A:=by intro zz;(first|refine Qa (QlE rfl rfl YG) rfl ?_|refine Qa (Qn0 rfl rfl YG) rfl ?_|refine Qa (rfl) rfl ?_);exact zz.out):A:=k ⟨h⟩
theorem ZhF (h:B) (k:Zh B→A:=by intro zz;refine Qft (sz:=2) hS Tryz.func155 rfl rfl Yq Yq rfl rfl Ym Yp ?_;exact zz.out):A:=k ⟨h⟩
theorem ZhG (h:B) (k:Zh B→A:=by intro zz;refine QcM (sz:=4) hS Tryz.func143 rfl rfl Yq rfl rfl Ym Yp ?_;exact zz.out):A:=k ⟨h⟩
theorem ZcB (h:B) (k:Zh B→A:=by intro zz;(first|refine Qa (Qe hS rfl rfl Ym Yp) rfl ?_|refine Qa (Qi rfl rfl YS) rfl ?_);exact zz.out):A:=k ⟨h⟩
theorem Zgq (h:B) (k:Zh B→A:=by intro zz;refine QY (St _ _ _ _) 10 ((0,true)::(1,true)::(2,true)::(3,true)::(4,true)::(5,true)::(6,true)::(7,true)::(8,true)::(9,true)::[]) YN YN (hS.drew) ?_;exact zz.out):A:=k ⟨h⟩
theorem ZcC (h:B) (k:Zh B→A:=by intro zz;(first|refine Qa (Qe hS rfl rfl Ym Yp) rfl ?_|refine Qa (Qi rfl rfl (by first|assumption|exact hsv _ hS (.tail _ (.head _))|exact hll _ hS (by simp [hgl])|exact hS.cell0 Yo|exact lv_next hS|exact lv_list hS)) rfl ?_);exact zz.out):A:=k ⟨h⟩
theorem Zgr (h:B) (k:Zh B→A:=by intro zz;refine Qa (Qf (off:=8) rfl rfl) rfl ?_;exact zz.out):A:=k ⟨h⟩
theorem Zdb (h:B) (k:Zh B→A:=by intro zz;refine Qa (hop _ _ hr) hd ?_;exact zz.out):A:=k ⟨h⟩
theorem ZhH (h:B) (k:Zh B→A:=by intro zz;refine QE Tryz.func104 rfl Tryz.ntmps104 rfl ?_;exact zz.out):A:=k ⟨h⟩
theorem Zdc (h:B) (k:Zh B→A:=by intro zz;refine Calls.mono (hc _ ⟨K,oA,oc,O,hK,hKr,hrow,hS⟩) ?_;exact zz.out):A:=k ⟨h⟩
theorem Zdd (h:B) (k:Zh B→A:=by intro zz;(first|refine Qa (Qe hS rfl rfl Ym Yp) rfl ?_|refine Qa (Qi rfl rfl (by first|assumption|exact (hpc hF _ hS).1|exact (hpc hF _ hS).2.1|exact (hpc hF _ hS).2.2.1|exact (hpc hF _ hS).2.2.2.1|exact (hpc hF _ hS).2.2.2.2.1|exact (hpc hF _ hS).2.2.2.2.2|exact hS.cell0 Yo|exact lv_next hS|exact lv_list hS)) rfl ?_);exact zz.out):A:=k ⟨h⟩
theorem Zde (h:B) (k:Zh B→A:=by intro zz;(first|refine Qh rfl (fun _ hS=>Qb (k:=4) hS rfl rfl rfl Ym Yp) rfl ?_|refine Qh rfl (fun _ hS=>Qb (k:=4) hS rfl rfl rfl Ym Yo) rfl ?_|refine Qh rfl (fun _ hS=>QQ rfl rfl rfl YC YC YC YC) rfl ?_);exact zz.out):A:=k ⟨h⟩
theorem ZhI (h:B) (k:Zh B→A:=by intro zz;refine Calls.mono (Qc0 pb pA X.length pc q p 5 _ YG (hPS _ hS)) ?_;exact zz.out):A:=k ⟨h⟩
theorem Zdf (h:B) (k:Zh B→A:=by intro zz;refine QY (St _ _ _ _) 9 ((0,true)::(1,true)::(2,true)::(3,true)::(4,true)::(5,true)::(6,true)::(7,true)::(8,true)::[]) YN YN (hS.drew) ?_;exact zz.out):A:=k ⟨h⟩
theorem Zdg (h:B) (k:Zh B→A:=by intro zz;(first|refine Qa (Qb (k:=6) hS rfl rfl rfl Ym Yp) rfl ?_|refine Qa (Qb (k:=6) hS rfl rfl rfl Ym Yo) rfl ?_|refine Qa (QeI rfl rfl rfl Yr Yr Yr Yr Yr Yr) rfl ?_);exact zz.out):A:=k ⟨h⟩
theorem ZhJ (h:B) (k:Zh B→A:=by intro zz;refine QC rfl rfl rfl (fun _ hS=>Qf (off:=0) rfl rfl) rfl ?_;exact zz.out):A:=k ⟨h⟩
theorem ZhK (h:B) (k:Zh B→A:=by intro zz;refine QC rfl rfl rfl (fun _ hS=>Qf (off:=3) rfl rfl) rfl ?_;exact zz.out):A:=k ⟨h⟩
theorem ZhL (h:B) (k:Zh B→A:=by intro zz;(first|refine QC rfl rfl rfl (fun _ hS=>Qe hS rfl rfl Ym Yp) rfl ?_|refine QC rfl rfl rfl (fun _ hS=>Qi rfl rfl YI) rfl ?_);exact zz.out):A:=k ⟨h⟩
theorem ZhM (h:B) (k:Zh B→A:=by intro zz;refine QC rfl rfl rfl (fun _ hS=>QbT rfl rfl rfl) rfl ?_;exact zz.out):A:=k ⟨h⟩
theorem Zdh (h:B) (k:Zh B→A:=by intro zz;refine Qd rfl (fun _ hS=>Qf (off:=3) rfl rfl) rfl ?_;exact zz.out):A:=k ⟨h⟩
theorem Zdi (h:B) (k:Zh B→A:=by intro zz;refine QbK Tryz.func34 rfl Yq Yq ?_;exact zz.out):A:=k ⟨h⟩
theorem Zdj (h:B) (k:Zh B→A:=by intro zz;(first|refine QC rfl rfl rfl (fun _ hS=>Qe hS rfl rfl Ym Yp) rfl ?_|refine QC rfl rfl rfl (fun _ hS=>Qi rfl rfl Y3) rfl ?_);exact zz.out):A:=k ⟨h⟩
theorem ZhN (h:B) (k:Zh B→A:=by intro zz;refine Calls.mono (Qni h A B c d _ (hS.und hH)) ?_;exact zz.out):A:=k ⟨h⟩
theorem Zdk (h:B) (k:Zh B→A:=by intro zz;(first|refine Qa (Qe hS rfl rfl Ym Yp) rfl ?_|refine Qa (Qi rfl rfl (by first|assumption|exact (hcc _ hS).1|exact (hcc _ hS).2.1|exact (hcc _ hS).2.2|exact hcb _ hS|exact hcs _ hS|exact hS.cell0 Yo|exact lv_next hS|exact lv_list hS)) rfl ?_);exact zz.out):A:=k ⟨h⟩
theorem Zdl (h:B) (k:Zh B→A:=by intro zz;refine Q5 (cells:=[_,_,_]) hS (.cons Yq .nil) rfl rfl ?_;exact zz.out):A:=k ⟨h⟩
theorem Zdm (h:B) (k:Zh B→A:=by intro zz;refine Qh rfl (fun _ hS=>QB (cells:=[_,_]) (.cons Yq (.cons Yq .nil)) rfl) rfl ?_;exact zz.out):A:=k ⟨h⟩
theorem Zdn (h:B) (k:Zh B→A:=by intro zz;refine Qg Tryz.func196 rfl Yq ?_;exact zz.out):A:=k ⟨h⟩
theorem Zdo (h:B) (k:Zh B→A:=by intro zz;refine Qhc (by first|exact hS|exact hS.drop|exact hS.drop.drop|exact hS.drop.drop.drop|exact hS.unlearn|exact hS.unlearn.drop|exact hS.unlearn.drop.drop|exact hS.forget Yo|exact hS.drop.forget Yo) ?_;exact zz.out):A:=k ⟨h⟩
theorem Zdp (h:B) (k:Zh B→A:=by intro zz;refine Qb8 (QdJ YN (QtM Yq Yq Yq Yq Yq)) rfl ?_;exact zz.out):A:=k ⟨h⟩
theorem Zdq (h:B) (k:Zh B→A:=by intro zz;refine Qd rfl (fun _ hS=>Qf (off:=9) rfl rfl) rfl ?_;exact zz.out):A:=k ⟨h⟩
theorem ZhO (h:B) (k:Zh B→A:=by intro zz;(first|refine Qa (Qe hS rfl rfl Ym Yp) rfl ?_|refine Qa (Qi rfl rfl Y8) rfl ?_);exact zz.out):A:=k ⟨h⟩
theorem Zdr (h:B) (k:Zh B→A:=by intro zz;refine Qg Tryz.func58 rfl Yq ?_;exact zz.out):A:=k ⟨h⟩
theorem Zds (h:B) (k:Zh B→A:=by intro zz;refine QbK Tryz.func12 rfl Yq Yq ?_;exact zz.out):A:=k ⟨h⟩
theorem Zej (h:B) (k:Zh B→A:=by intro zz;refine Calls.mono (Qcf E p.1 _ hE.rd h1 hE.ok hS) ?_;exact zz.out):A:=k ⟨h⟩
theorem Zek (h:B) (k:Zh B→A:=by intro zz;refine Qa (QB (cells:=[_,_,_,_,_,_]) (.cons Yq (.cons Yq (.cons Yq .nil))) rfl) rfl ?_;exact zz.out):A:=k ⟨h⟩
theorem Zel (h:B) (k:Zh B→A:=by intro zz;refine Qa (QP (sz:=4) rfl rfl rfl rfl YG YG) rfl ?_;exact zz.out):A:=k ⟨h⟩
theorem Zem (h:B) (k:Zh B→A:=by intro zz;refine Qh rfl (fun _ ⟨_,hS⟩=>Qf (off:=3) rfl rfl) rfl ?_;exact zz.out):A:=k ⟨h⟩
theorem Zen (h:B) (k:Zh B→A:=by intro zz;refine Qca (cs:=[_]) hS rfl rfl rfl ?_;exact zz.out):A:=k ⟨h⟩
theorem Zeo (h:B) (k:Zh B→A:=by intro zz;refine QE Tryz.func62 rfl Tryz.ntmps62 rfl ?_;exact zz.out):A:=k ⟨h⟩
theorem Zep (h:B) (k:Zh B→A:=by intro zz;(first|refine Qa (QgT rfl rfl rfl) rfl ?_|refine Qa (QhG rfl rfl rfl) rfl ?_);exact zz.out):A:=k ⟨h⟩
theorem Zeq (h:B) (k:Zh B→A:=by intro zz;refine QY (St _ _ _ _) 22 ((0,true)::(1,true)::(2,true)::(3,true)::(4,true)::(5,true)::(6,true)::(7,true)::(8,true)::(9,true)::(10,true)::(11,true)::(12,true)::(13,true)::(14,true)::(15,true)::(16,true)::(17,true)::(18,true)::(19,true)::(20,true)::(21,true)::[]) YN YN (hS.drew) ?_;exact zz.out):A:=k ⟨h⟩
theorem Zer (h:B) (k:Zh B→A:=by intro zz;(first|refine Qd rfl (fun _ hS=>Qh6 rfl rfl Yo) rfl ?_|refine Qd rfl (fun _ hS=>Qh7 rfl rfl Yo) rfl ?_|refine Qd rfl (fun _ hS=>QgS rfl rfl) rfl ?_|refine Qd rfl (fun _ hS=>rfl) rfl ?_);exact zz.out):A:=k ⟨h⟩
theorem Zes (h:B) (k:Zh B→A:=by intro zz;(first|refine QC rfl rfl rfl (fun _ hS=>Qbg rfl rfl) rfl ?_|refine QC rfl rfl rfl (fun _ hS=>Qfg rfl rfl Yan) rfl ?_|refine QC rfl rfl rfl (fun _ hS=>Qeg rfl rfl YG) rfl ?_|refine QC rfl rfl rfl (fun _ hS=>rfl) rfl ?_);exact zz.out):A:=k ⟨h⟩
theorem Zet (h:B) (k:Zh B→A:=by intro zz;refine Qb8 (Qpk rfl YN (Qsn Yq)) rfl ?_;exact zz.out):A:=k ⟨h⟩
theorem Zeu (h:B) (k:Zh B→A:=by intro zz;(first|refine Qa (Qe hS rfl rfl Ym Yp) rfl ?_|refine Qa (Qi rfl rfl (by first|assumption|exact hct _ hS|exact hpa _ hS|exact hpb _ hS|exact hS.cell0 Yo|exact lv_next hS|exact lv_list hS)) rfl ?_);exact zz.out):A:=k ⟨h⟩
theorem Zev (h:B) (k:Zh B→A:=by intro zz;(first|refine Qa (Qe hS rfl rfl Ym Yp) rfl ?_|refine Qa (Qi rfl rfl (by first|assumption|exact hcc _ hS|exact hcb _ hS|exact hcs _ hS|exact hS.cell0 Yo|exact lv_next hS|exact lv_list hS)) rfl ?_);exact zz.out):A:=k ⟨h⟩
theorem Zew (h:B) (k:Zh B→A:=by intro zz;refine QcM (sz:=2) hS Tryz.func190 rfl rfl Yq rfl rfl Ym Yp ?_;exact zz.out):A:=k ⟨h⟩
theorem Zex (h:B) (k:Zh B→A:=by intro zz;refine Qaq hS rfl Yq rfl rfl (.tail .head) (by rw [Nat.zero_add,Nat.mul_one];exact hput) (.tail .head) ?_;exact zz.out):A:=k ⟨h⟩
theorem Zey (h:B) (k:Zh B→A:=by intro zz;refine Qhc (by first|exact hS.bare2|exact hS.drop.bare2|exact hS.drop.drop.bare2) ?_;exact zz.out):A:=k ⟨h⟩
theorem Zez (h:B) (k:Zh B→A:=by intro zz;(first|refine Qd rfl (fun _ hS=>Qb (k:=3) hS rfl rfl rfl Ym Yp) rfl ?_|refine Qd rfl (fun _ hS=>Qb (k:=3) hS rfl rfl rfl Ym Yo) rfl ?_|refine Qd rfl (fun _ hS=>QaV rfl rfl rfl YD YD YD) rfl ?_);exact zz.out):A:=k ⟨h⟩
theorem ZeA (h:B) (k:Zh B→A:=by intro zz;refine Qd rfl (fun _ hS=>Qf (off:=7) rfl rfl) rfl ?_;exact zz.out):A:=k ⟨h⟩
theorem ZeB (h:B) (k:Zh B→A:=by intro zz;refine Qa (Qf (off:=7) rfl rfl) rfl ?_;exact zz.out):A:=k ⟨h⟩
theorem ZeC (h:B) (k:Zh B→A:=by intro zz;(first|refine Qa (Qe hS rfl rfl Ym Yp) rfl ?_|refine Qa (Qi rfl rfl (by first|assumption|exact (hcl _ hS (by simp)).1|exact (hcl _ hS (by simp)).2.1|exact (hcl _ hS (by simp)).2.2.1|exact (hcl _ hS (by simp)).2.2.2|exact hS.cell0 Yo|exact lv_next hS|exact lv_list hS)) rfl ?_);exact zz.out):A:=k ⟨h⟩
theorem ZeD (h:B) (k:Zh B→A:=by intro zz;(first|refine Qa (Qb (k:=4) hS rfl rfl rfl Ym Yp) rfl ?_|refine Qa (Qb (k:=4) hS rfl rfl rfl Ym Yo) rfl ?_|refine Qa (QQ rfl rfl rfl YF YF YF YF) rfl ?_);exact zz.out):A:=k ⟨h⟩
theorem ZeE (h:B) (k:Zh B→A:=by intro zz;(first|refine Qd rfl (fun _ hS=>Qe hS rfl rfl Ym Yp) rfl ?_|refine Qd rfl (fun _ hS=>Qi rfl rfl (by first|assumption|exact (hcell _ hS).1|exact (hcell _ hS).2.1|exact (hcell _ hS).2.2|exact hll _ hS (by simp)|exact hS.cell0 Yo|exact lv_next hS|exact lv_list hS)) rfl ?_);exact zz.out):A:=k ⟨h⟩
theorem ZeX (h:B) (k:Zh B→A:=by intro zz;refine (Qj4 vars k1 n1 s1 ar _ _ (hv1.below hX) hnod).mono ?_;exact zz.out):A:=k ⟨h⟩
theorem ZeY (h:B) (k:Zh B→A:=by intro zz;(first|refine Qa (QhF rfl rfl rfl) rfl ?_|refine Qa (QgM rfl rfl rfl) rfl ?_|refine Qa (run_neq_ptr_self rfl rfl rfl rfl) rfl ?_);exact zz.out):A:=k ⟨h⟩
theorem ZeZ (h:B) (k:Zh B→A:=by intro zz;(first|refine Qa (Qe hS rfl rfl Ym Yp) rfl ?_|refine Qa (Qi rfl rfl Y2) rfl ?_);exact zz.out):A:=k ⟨h⟩
theorem Ze0 (h:B) (k:Zh B→A:=by intro zz;(first|refine Qd rfl (fun _ hS=>Qe hS rfl rfl Ym Yp) rfl ?_|refine Qd rfl (fun _ hS=>Qi rfl rfl Y2) rfl ?_);exact zz.out):A:=k ⟨h⟩
theorem Ze1 (h:B) (k:Zh B→A:=by intro zz;(first|refine Qd rfl (fun _ hS=>Qbg rfl rfl) rfl ?_|refine Qd rfl (fun _ hS=>Qfg rfl rfl Yan) rfl ?_|refine Qd rfl (fun _ hS=>Qeg rfl rfl YG) rfl ?_|refine Qd rfl (fun _ hS=>rfl) rfl ?_);exact zz.out):A:=k ⟨h⟩
theorem Ze2 (h:B) (k:Zh B→A:=by intro zz;refine Qi8 (u:=x) hS Yq (by rfl) rfl rfl rfl (Qz.own (sp:=[]) (hS.own (_,_) (.head _)) rfl (Nat.le_refl _)) hrw (List.perm_append_comm_assoc [_,_] Os _) (by rw [List.length_append,List.length_reverse];omega) rfl ?_;exact zz.out):A:=k ⟨h⟩
theorem Ze3 (h:B) (k:Zh B→A:=by intro zz;refine Q5 (cells:=[_,_]) hS (.cons Yq .nil) rfl rfl ?_;exact zz.out):A:=k ⟨h⟩
theorem Ze4 (h:B) (k:Zh B→A:=by intro zz;refine Qh rfl (fun _ ⟨_,hS⟩=>QaO rfl) rfl ?_;exact zz.out):A:=k ⟨h⟩
theorem Ze5 (h:B) (k:Zh B→A:=by intro zz;refine Qd rfl (fun _ hS=>Qpl rfl rfl YG YG) rfl ?_;exact zz.out):A:=k ⟨h⟩
theorem Ze6 (h:B) (k:Zh B→A:=by intro zz;refine Qg Tryz.func185 rfl Yq ?_;exact zz.out):A:=k ⟨h⟩
theorem Ze7 (h:B) (k:Zh B→A:=by intro zz;refine Qa (QiV rfl rfl rfl) rfl ?_;exact zz.out):A:=k ⟨h⟩
theorem Ze8 (h:B) (k:Zh B→A:=by intro zz;(first|refine Qa (Qb (k:=3) hS rfl rfl rfl Ym Yp) rfl ?_|refine Qa (Qb (k:=3) hS rfl rfl rfl Ym Yo) rfl ?_|refine Qa (QaV rfl rfl rfl YU YU YU) rfl ?_);exact zz.out):A:=k ⟨h⟩
theorem Ze9 (h:B) (k:Zh B→A:=by intro zz;refine Qft (sz:=2) hS Tryz.func90 rfl rfl Yq Yq rfl rfl Ym Yp ?_;exact zz.out):A:=k ⟨h⟩
theorem Zfa (h:B) (k:Zh B→A:=by intro zz;refine QcM (sz:=2) hS Tryz.func189 rfl rfl Yq rfl rfl Ym Yp ?_;exact zz.out):A:=k ⟨h⟩
theorem Zfb (h:B) (k:Zh B→A:=by intro zz;refine Qg Tryz.func239 rfl Yq ?_;exact zz.out):A:=k ⟨h⟩
theorem Zfc (h:B) (k:Zh B→A:=by intro zz;refine QY (St _ _ _ _) 17 ((0,true)::(1,true)::(2,true)::(3,true)::(4,true)::(5,true)::(6,true)::(7,true)::(8,true)::(9,true)::(10,true)::(11,true)::(12,true)::(13,true)::(14,true)::(15,true)::(16,true)::[]) YN YN (hS.drew) ?_;exact zz.out):A:=k ⟨h⟩
theorem Zfd (h:B) (k:Zh B→A:=by intro zz;refine Qa (QB (cells:=[_,_,_,_]) (.cons Yq (.cons Yq .nil)) rfl) rfl ?_;exact zz.out):A:=k ⟨h⟩
theorem Zfe (h:B) (k:Zh B→A:=by intro zz;refine Qft (sz:=4) hS Tryz.func91 rfl rfl Yq Yq rfl rfl Ym Yp ?_;exact zz.out):A:=k ⟨h⟩
theorem Zff (h:B) (k:Zh B→A:=by intro zz;refine Qa (QB (cells:=[_,_,_]) (.cons Yq (.cons Yq .nil)) rfl) rfl ?_;exact zz.out):A:=k ⟨h⟩
theorem Zfg (h:B) (k:Zh B→A:=by intro zz;refine Qd rfl (fun _ hS=>QA (sz:=1) rfl rfl rfl rfl YG YG) rfl ?_;exact zz.out):A:=k ⟨h⟩
theorem Zfh (h:B) (k:Zh B→A:=by intro zz;refine Qg Tryz.func100 rfl Yq ?_;exact zz.out):A:=k ⟨h⟩
theorem Zfi (h:B) (k:Zh B→A:=by intro zz;refine Qg Tryz.func98 rfl Yq ?_;exact zz.out):A:=k ⟨h⟩
theorem Zfj (h:B) (k:Zh B→A:=by intro zz;refine Qg Tryz.func31 rfl Yq ?_;exact zz.out):A:=k ⟨h⟩
theorem Zfk (h:B) (k:Zh B→A:=by intro zz;(first|refine Qa (Qe hS rfl rfl Ym Yp) rfl ?_|refine Qa (Qi rfl rfl YX) rfl ?_);exact zz.out):A:=k ⟨h⟩
theorem Zfl (h:B) (k:Zh B→A:=by intro zz;(first|refine Qa (Qe hS rfl rfl Ym Yp) rfl ?_|refine Qa (Qi rfl rfl (by first|assumption|exact hk _ hS|exact hll' _ hS (by simp)|exact hS.cell0 Yo|exact lv_next hS|exact lv_list hS)) rfl ?_);exact zz.out):A:=k ⟨h⟩
theorem Zfm (h:B) (k:Zh B→A:=by intro zz;(first|refine Qd rfl (fun _ hS=>Qe hS rfl rfl Ym Yp) rfl ?_|refine Qd rfl (fun _ hS=>Qi rfl rfl (by first|assumption|exact hc1 _ hS|exact hc2 _ hS|exact hS.cell0 Yo|exact lv_next hS|exact lv_list hS)) rfl ?_);exact zz.out):A:=k ⟨h⟩
theorem Zfn (h:B) (k:Zh B→A:=by intro zz;refine Qa (QA (sz:=2) rfl rfl rfl rfl YG YG) rfl ?_;exact zz.out):A:=k ⟨h⟩
theorem ZfD (h:B) (k:Zh B→A:=by intro zz;refine QY (St _ _ _ _) 7 ((0,true)::(1,true)::(2,true)::(3,true)::(4,true)::(5,true)::(6,true)::[]) YN YN (hS.drew) ?_;exact zz.out):A:=k ⟨h⟩
theorem ZfE (h:B) (k:Zh B→A:=by intro zz;refine Qb7 (by first|exact ⟨_,hS⟩|exact ⟨_,hS.drop⟩|exact ⟨_,hS.forget hF2⟩|exact ⟨_,hS.drop.forget hF2⟩) ?_;exact zz.out):A:=k ⟨h⟩
theorem ZfF (h:B) (k:Zh B→A:=by intro zz;refine Qg Tryz.func102 rfl Yq ?_;exact zz.out):A:=k ⟨h⟩
theorem ZfG (h:B) (k:Zh B→A:=by intro zz;refine Qb7 (by first|exact ⟨_,hS⟩|exact ⟨_,hS.drop⟩|exact ⟨_,hS.forget hF7⟩|exact ⟨_,hS.drop.forget hF7⟩) ?_;exact zz.out):A:=k ⟨h⟩
theorem ZfH (h:B) (k:Zh B→A:=by intro zz;refine Qd rfl (fun _ hS=>QA (sz:=4) rfl rfl rfl rfl YG YG) rfl ?_;exact zz.out):A:=k ⟨h⟩
theorem ZfI (h:B) (k:Zh B→A:=by intro zz;(first|refine Qa (Qb (k:=4) hS rfl rfl rfl Ym Yp) rfl ?_|refine Qa (Qb (k:=4) hS rfl rfl rfl Ym Yo) rfl ?_|refine Qa (QQ rfl rfl rfl Yr Yr Yr Yr) rfl ?_);exact zz.out):A:=k ⟨h⟩
theorem ZfJ (h:B) (k:Zh B→A:=by intro zz;refine Qd rfl (fun _ hS=>Qf (off:=5) rfl rfl) rfl ?_;exact zz.out):A:=k ⟨h⟩
theorem ZfK (h:B) (k:Zh B→A:=by intro zz;refine Qg Tryz.func142 rfl Yq ?_;exact zz.out):A:=k ⟨h⟩
theorem ZfL (h:B) (k:Zh B→A:=by intro zz;refine Qg Tryz.func140 rfl Yq ?_;exact zz.out):A:=k ⟨h⟩
theorem ZfM (h:B) (k:Zh B→A:=by intro zz;refine Qg Tryz.func215 rfl Yq ?_;exact zz.out):A:=k ⟨h⟩
theorem ZfN (h:B) (k:Zh B→A:=by intro zz;refine Qg Tryz.func218 rfl Yq ?_;exact zz.out):A:=k ⟨h⟩
theorem ZfO (h:B) (k:Zh B→A:=by intro zz;refine Qoo (sz:=2) hS Tryz.func95 rfl rfl Yq Yq Yq Yq rfl rfl Ym Yp ?_;exact zz.out):A:=k ⟨h⟩
theorem ZfP (h:B) (k:Zh B→A:=by intro zz;refine Qh rfl (fun _ hS=>Qf (off:=1) rfl rfl) rfl ?_;exact zz.out):A:=k ⟨h⟩
theorem ZfQ (h:B) (k:Zh B→A:=by intro zz;refine Calls.mono (QlZ h.tr N Mk h.tr.length hNl B _ A6 d _ c6 _ ((hTr.mono hF27).mono hF8) ((hN.mono (fun φ h=>hF7 φ (hF6 φ h))).mono hF8) (hS6'.mono hF8) (fun a ha=>by rw [hml];exact htr a ha) hl2 rfl hS) ?_;exact zz.out):A:=k ⟨h⟩
theorem ZfR (h:B) (k:Zh B→A:=by intro zz;refine Qg Tryz.func220 rfl Yq ?_;exact zz.out):A:=k ⟨h⟩
theorem ZfS (h:B) (k:Zh B→A:=by intro zz;refine Qg Tryz.func223 rfl Yq ?_;exact zz.out):A:=k ⟨h⟩
theorem ZfT (h:B) (k:Zh B→A:=by intro zz;refine Qg Tryz.func224 rfl Yq ?_;exact zz.out):A:=k ⟨h⟩
theorem ZfU (h:B) (k:Zh B→A:=by intro zz;(first|refine Qh rfl (fun _ hS=>Qe hS rfl rfl Ym Yp) rfl ?_|refine Qh rfl (fun _ hS=>Qi rfl rfl Y3) rfl ?_);exact zz.out):A:=k ⟨h⟩
theorem ZfV (h:B) (k:Zh B→A:=by intro zz;refine Qb7 (by first|exact hS|exact hS.drop|exact hS.drop.drop|exact hS.drop.drop.drop|exact hS.unlearn|exact hS.unlearn.drop|exact hS.unlearn.drop.drop|exact hS.dropL|exact hS.dropL.dropL|exact hS.drop.dropL.dropL) ?_;exact zz.out):A:=k ⟨h⟩
theorem ZfW (h:B) (k:Zh B→A:=by intro zz;refine Qd rfl (fun _ hS=>Qf (off:=4) rfl rfl) rfl ?_;exact zz.out):A:=k ⟨h⟩
theorem ZfX (h:B) (k:Zh B→A:=by intro zz;refine Qa (QB (cells:=[_,_,_,_]) (.cons Yq (.cons Yq (.cons Yq .nil))) rfl) rfl ?_;exact zz.out):A:=k ⟨h⟩
theorem ZfY (h:B) (k:Zh B→A:=by intro zz;refine Qd rfl (fun _ hS=>QbT rfl rfl rfl) rfl ?_;exact zz.out):A:=k ⟨h⟩
theorem ZfZ (h:B) (k:Zh B→A:=by intro zz;refine QdB (sz:=3) hS Tryz.func138 rfl rfl rfl rfl Ym Yp ?_;exact zz.out):A:=k ⟨h⟩
theorem Zf0 (h:B) (k:Zh B→A:=by intro zz;(first|refine Qd rfl (fun _ hS=>Qe hS rfl rfl Ym Yp) rfl ?_|refine Qd rfl (fun _ hS=>Qi rfl rfl YS) rfl ?_);exact zz.out):A:=k ⟨h⟩
theorem Zf1 (h:B) (k:Zh B→A:=by intro zz;(first|refine Qh rfl (fun _ ⟨_,hS⟩=>Qe hS rfl rfl Ym Yp) rfl ?_|refine Qh rfl (fun _ ⟨_,hS⟩=>Qi rfl rfl YS) rfl ?_);exact zz.out):A:=k ⟨h⟩
theorem Zf2 (h:B) (k:Zh B→A:=by intro zz;refine QkS Tryz.func154 rfl Yq Yq Yq ?_;exact zz.out):A:=k ⟨h⟩
theorem Zf3 (h:B) (k:Zh B→A:=by intro zz;refine QY (St _ _ _ _) 16 ((0,true)::(1,true)::(2,true)::(3,true)::(4,true)::(5,true)::(6,true)::(7,true)::(8,true)::(9,true)::(10,true)::(11,true)::(12,true)::(13,true)::(14,true)::(15,true)::[]) YN YN (hS.drew) ?_;exact zz.out):A:=k ⟨h⟩
theorem Zf4 (h:B) (k:Zh B→A:=by intro zz;refine Qd rfl (fun _ hS=>Qf (off:=10) rfl rfl) rfl ?_;exact zz.out):A:=k ⟨h⟩
theorem Zf5 (h:B) (k:Zh B→A:=by intro zz;refine Qd rfl (fun _ hS=>Qf (off:=6) rfl rfl) rfl ?_;exact zz.out):A:=k ⟨h⟩
theorem Zf6 (h:B) (k:Zh B→A:=by intro zz;(first|refine Qd rfl (fun _ hS=>QgP rfl rfl YG) rfl ?_|refine Qd rfl (fun _ hS=>Qh4 rfl rfl YG) rfl ?_|refine Qd rfl (fun _ hS=>rfl) rfl ?_);exact zz.out):A:=k ⟨h⟩
theorem Zf7 (h:B) (k:Zh B→A:=by intro zz;(first|refine Qd rfl (fun _ hS=>Qe hS rfl rfl Ym Yp) rfl ?_|refine Qd rfl (fun _ hS=>Qi rfl rfl Yam) rfl ?_);exact zz.out):A:=k ⟨h⟩
theorem Zf8 (h:B) (k:Zh B→A:=by intro zz;refine QbK Tryz.func15 rfl Yq Yq ?_;exact zz.out):A:=k ⟨h⟩
theorem Zgs (h:B) (k:Zh B→A:=by intro zz;refine QdB (sz:=4) hS Tryz.func160 rfl rfl rfl rfl Ym Yp ?_;exact zz.out):A:=k ⟨h⟩
theorem Zgt (h:B) (k:Zh B→A:=by intro zz;(first|refine Qa (Qb (k:=4) hS rfl rfl rfl Ym Yp) rfl ?_|refine Qa (Qb (k:=4) hS rfl rfl rfl Ym Yo) rfl ?_|refine Qa (QQ rfl rfl rfl YE YE YE YE) rfl ?_);exact zz.out):A:=k ⟨h⟩
theorem Zgu (h:B) (k:Zh B→A:=by intro zz;refine Q5 (cells:=[_,_,_,_,_,_,_,_]) hS (.cons Yq .nil) rfl rfl ?_;exact zz.out):A:=k ⟨h⟩
theorem Zgv (h:B) (k:Zh B→A:=by intro zz;(first|refine Qa (Qb (k:=8) hS rfl rfl rfl Ym Yp) rfl ?_|refine Qa (Qb (k:=8) hS rfl rfl rfl Ym Yo) rfl ?_|refine Qa (run_load8 rfl rfl rfl Yz Yz Yz Yz Yz Yz Yz Yz) rfl ?_);exact zz.out):A:=k ⟨h⟩
theorem Zgw (h:B) (k:Zh B→A:=by intro zz;(first|refine Qh rfl (fun _ hS=>Qb (k:=4) hS rfl rfl rfl Ym Yp) rfl ?_|refine Qh rfl (fun _ hS=>Qb (k:=4) hS rfl rfl rfl Ym Yo) rfl ?_|refine Qh rfl (fun _ hS=>QQ rfl rfl rfl Yz Yz Yz Yz) rfl ?_);exact zz.out):A:=k ⟨h⟩
theorem Zgx (h:B) (k:Zh B→A:=by intro zz;(first|refine Qh rfl (fun _ ⟨_,hS⟩=>Qe hS rfl rfl Ym Yp) rfl ?_|refine Qh rfl (fun _ ⟨_,hS⟩=>Qi rfl rfl (by first|assumption|exact (hcc _ hS).1|exact (hcc _ hS).2.1|exact (hcc _ hS).2.2.1|exact (hcc _ hS).2.2.2|exact (hcd _ hS).1|exact (hcd _ hS).2.1|exact (hcd _ hS).2.2.1|exact (hcd _ hS).2.2.2|exact hS.cell0 Yo|exact lv_next hS|exact lv_list hS)) rfl ?_);exact zz.out):A:=k ⟨h⟩
theorem Zgy (h:B) (k:Zh B→A:=by intro zz;refine Qh rfl (fun _ ⟨_,hS⟩=>QA (sz:=4) rfl rfl rfl rfl YG YG) rfl ?_;exact zz.out):A:=k ⟨h⟩
theorem Zgz (h:B) (k:Zh B→A:=by intro zz;(first|refine Qh rfl (fun _ ⟨_,hS⟩=>Qb (k:=4) hS rfl rfl rfl Ym Yp) rfl ?_|refine Qh rfl (fun _ ⟨_,hS⟩=>Qb (k:=4) hS rfl rfl rfl Ym Yo) rfl ?_|refine Qh rfl (fun _ ⟨_,hS⟩=>QQ rfl rfl rfl YB YB YB YB) rfl ?_);exact zz.out):A:=k ⟨h⟩
theorem ZgA (h:B) (k:Zh B→A:=by intro zz;refine QdB (sz:=4) hS Tryz.func158 rfl rfl rfl rfl Ym Yp ?_;exact zz.out):A:=k ⟨h⟩
theorem ZgB (h:B) (k:Zh B→A:=by intro zz;refine QaA (St _ _ _ _) 15 (.read 0 (.read 1 (.read 2 (.read 3 (.read 4 (.read 5 (.read 6 (.pick 7 (.read 8 (.read 9 (.read 10 (.read 11 (.read 12 (.read 13 (.read 14 .tail))))))) .none)))))))) YN YN hS.drew ?_;exact zz.out):A:=k ⟨h⟩
theorem ZgC (h:B) (k:Zh B→A:=by intro zz;refine Qb7 (by first|exact hS|exact hS.drop|exact hS.drop.drop|exact hS.drop.drop.drop|exact hS.unlearn|exact hS.unlearn.drop|exact hS.unlearn.drop.drop|exact hS.forget hF9) ?_;exact zz.out):A:=k ⟨h⟩
theorem ZgD (h:B) (k:Zh B→A:=by intro zz;refine QaA (St _ _ _ _) 12 (.read 0 (.read 1 (.read 2 (.read 3 (.read 5 (.read 6 (.read 7 (.read 8 (.pick 4 (.pick 9 (.pick 10 (.pick 11 .tail .none) (.pick 11 (.pick 10 .tail .none) .none)) (.pick 10 (.pick 9 (.pick 11 .tail .none) (.pick 11 (.pick 9 .tail .none) .none)) (.pick 11 (.pick 9 (.pick 10 .tail .none) (.pick 10 (.pick 9 .tail .none) .none)) .none))) (.pick 10 (.pick 4 (.pick 9 (.pick 11 .tail .none) (.pick 11 (.pick 9 .tail .none) .none)) (.pick 11 (.pick 4 (.pick 9 .tail .none) .none) .none)) (.pick 11 (.pick 4 (.pick 9 (.pick 10 .tail .none) (.pick 10 (.pick 9 .tail .none) .none)) (.pick 10 (.pick 4 (.pick 9 .tail .none) .none) .none)) .none))))))))))) YN YN hS.drew ?_;exact zz.out):A:=k ⟨h⟩
theorem ZgE (h:B) (k:Zh B→A:=by intro zz;(first|refine Qd rfl (fun _ hS=>Qe hS rfl rfl Ym Yp) rfl ?_|refine Qd rfl (fun _ hS=>Qi rfl rfl YO) rfl ?_);exact zz.out):A:=k ⟨h⟩
theorem ZgF (h:B) (k:Zh B→A:=by intro zz;refine Qd rfl (fun _ hS=>QB (cells:=[_,_,_,_]) (.cons Yq (.cons Yq .nil)) rfl) rfl ?_;exact zz.out):A:=k ⟨h⟩
theorem ZgG (h:B) (k:Zh B→A:=by intro zz;(first|refine Qh rfl (fun _ hS=>Qb (k:=4) hS rfl rfl rfl Ym Yp) rfl ?_|refine Qh rfl (fun _ hS=>Qb (k:=4) hS rfl rfl rfl Ym Yo) rfl ?_|refine Qh rfl (fun _ hS=>QQ rfl rfl rfl Yx Yx Yx Yx) rfl ?_);exact zz.out):A:=k ⟨h⟩
theorem ZgH (h:B) (k:Zh B→A:=by intro zz;(first|refine Qh rfl (fun _ hS=>Qb (k:=4) hS rfl rfl rfl Ym Yp) rfl ?_|refine Qh rfl (fun _ hS=>Qb (k:=4) hS rfl rfl rfl Ym Yo) rfl ?_|refine Qh rfl (fun _ hS=>QQ rfl rfl rfl Ys Ys Ys Ys) rfl ?_);exact zz.out):A:=k ⟨h⟩
theorem ZgI (h:B) (k:Zh B→A:=by intro zz;refine Qb7 (by first|exact hS|exact hS.drop|exact hS.drop.drop|exact hS.drop.drop.drop|exact hS.unlearn|exact hS.unlearn.drop|exact hS.unlearn.drop.drop|exact hS.forget (fun φ h=>hF9 φ (.tail _ h))) ?_;exact zz.out):A:=k ⟨h⟩
theorem ZgJ (h:B) (k:Zh B→A:=by intro zz;(first|refine Qd rfl (fun _ hS=>Qe hS rfl rfl Ym Yp) rfl ?_|refine Qd rfl (fun _ hS=>Qi rfl rfl YV) rfl ?_);exact zz.out):A:=k ⟨h⟩
theorem ZgK (h:B) (k:Zh B→A:=by intro zz;refine QC rfl rfl rfl (fun _ hS=>QA (sz:=2) rfl rfl rfl rfl YG YG) rfl ?_;exact zz.out):A:=k ⟨h⟩
theorem ZgL (h:B) (k:Zh B→A:=by intro zz;(first|refine Qa (Qb (k:=2) hS rfl rfl rfl Ym Yp) rfl ?_|refine Qa (Qb (k:=2) hS rfl rfl rfl Ym Yo) rfl ?_|refine Qa (QaP rfl rfl rfl (by first|assumption|exact hpa _ hS|exact hS.cell0 Yo) (by first|assumption|exact hpa _ hS|exact hS.cell0 Yo)) rfl ?_);exact zz.out):A:=k ⟨h⟩
theorem ZgM (h:B) (k:Zh B→A:=by intro zz;(first|refine Qa (Qb (k:=3) hS rfl rfl rfl Ym Yp) rfl ?_|refine Qa (Qb (k:=3) hS rfl rfl rfl Ym Yo) rfl ?_|refine Qa (QaV rfl rfl rfl YZ YZ YZ) rfl ?_);exact zz.out):A:=k ⟨h⟩
theorem ZgN (h:B) (k:Zh B→A:=by intro zz;refine Qaq hS rfl Yq rfl rfl .head (by rw [hi1,Nat.zero_add,Nat.mul_one];exact hput) .head ?_;exact zz.out):A:=k ⟨h⟩
theorem ZgO (h:B) (k:Zh B→A:=by intro zz;(first|refine Qa (Qe hS rfl rfl Ym Yp) rfl ?_|refine Qa (Qi rfl rfl (by first|assumption|exact hct _ hS|exact hcs _ hS|exact hS.cell0 Yo|exact lv_next hS|exact lv_list hS)) rfl ?_);exact zz.out):A:=k ⟨h⟩
theorem ZgP (h:B) (k:Zh B→A:=by intro zz;(first|refine Qa (Qe hS rfl rfl Ym Yp) rfl ?_|refine Qa (Qi rfl rfl Yak) rfl ?_);exact zz.out):A:=k ⟨h⟩
theorem ZgQ (h:B) (k:Zh B→A:=by intro zz;(first|refine Qh rfl (fun _ hS=>Qe hS rfl rfl Ym Yp) rfl ?_|refine Qh rfl (fun _ hS=>Qi rfl rfl Yak) rfl ?_);exact zz.out):A:=k ⟨h⟩
theorem ZgR (h:B) (k:Zh B→A:=by intro zz;refine Calls.mono (Qji h.cs Mk A A2 A6 c c2 c6 _ (hCs.mono hF27) (hM2.mono hF27) hS6' hgl hl1 hml hS) ?_;exact zz.out):A:=k ⟨h⟩
theorem ZgS (h:B) (k:Zh B→A:=by intro zz;refine Qa (QB (cells:=[_,_]) (.cons Yq (.cons Yq .nil)) rfl) rfl ?_;exact zz.out):A:=k ⟨h⟩
theorem ZgT (h:B) (k:Zh B→A:=by intro zz;(first|refine Qh rfl (fun _ hS=>Qe hS rfl rfl Ym Yp) rfl ?_|refine Qh rfl (fun _ hS=>Qi rfl rfl Yas) rfl ?_);exact zz.out):A:=k ⟨h⟩
theorem ZgU (h:B) (k:Zh B→A:=by intro zz;refine Qaq hS rfl Yq rfl rfl (.tail .head) (by rw [Nat.zero_add];exact hput) (.tail .head) ?_;exact zz.out):A:=k ⟨h⟩
theorem ZgV (h:B) (k:Zh B→A:=by intro zz;(first|refine Qd rfl (fun _ hS=>Qe hS rfl rfl Ym Yp) rfl ?_|refine Qd rfl (fun _ hS=>Qi rfl rfl Y4) rfl ?_);exact zz.out):A:=k ⟨h⟩
theorem ZgW (h:B) (k:Zh B→A:=by intro zz;(first|refine Qd rfl (fun _ hS=>Qb (k:=3) hS rfl rfl rfl Ym Yp) rfl ?_|refine Qd rfl (fun _ hS=>Qb (k:=3) hS rfl rfl rfl Ym Yo) rfl ?_|refine Qd rfl (fun _ hS=>QaV rfl rfl rfl YQ YQ YQ) rfl ?_);exact zz.out):A:=k ⟨h⟩
theorem ZgX (h:B) (k:Zh B→A:=by intro zz;(first|refine Qa (Qe hS rfl rfl Ym Yp) rfl ?_|refine Qa (Qi rfl rfl Y4) rfl ?_);exact zz.out):A:=k ⟨h⟩
theorem ZgY (h:B) (k:Zh B→A:=by intro zz;refine Calls.mono (hcall _ (hL.mono hFF') hg hl hadr hP' YG YG YG YG YG (hS.perm (List.perm_append_comm_assoc [_,_,_] [_,_] _))) ?_;exact zz.out):A:=k ⟨h⟩
theorem ZgZ (h:B) (k:Zh B→A:=by intro zz;refine QdQ hS rfl Yq rfl rfl (.tail .head) (Qga (QfK D') [r0,r1,r2,r3] (tcs u2) rs _ YG rfl) (.tail .head) ?_;exact zz.out):A:=k ⟨h⟩
theorem Zg0 (h:B) (k:Zh B→A:=by intro zz;(first|refine Qd rfl (fun _ hS=>Qe hS rfl rfl Ym Yp) rfl ?_|refine Qd rfl (fun _ hS=>Qi rfl rfl Yab) rfl ?_);exact zz.out):A:=k ⟨h⟩
theorem Zg1 (h:B) (k:Zh B→A:=by intro zz;refine Calls.mono (hcall _ hL hgl hl1 ha hP YG YG YG YG YG hS) ?_;exact zz.out):A:=k ⟨h⟩
theorem Zg2 (h:B) (k:Zh B→A:=by intro zz;refine QdQ hS rfl (by rfl) rfl rfl (.tail (.tail .head)) (by rw [Nat.zero_add];exact hput _) (.tail (.tail .head)) ?_;exact zz.out):A:=k ⟨h⟩
theorem Zg3 (h:B) (k:Zh B→A:=by intro zz;refine Qa (QB (cells:=[_,_,_,_]) (.cons Yq (.cons Yq (.cons Yq (.cons Yq .nil)))) rfl) rfl ?_;exact zz.out):A:=k ⟨h⟩
theorem Zg4 (h:B) (k:Zh B→A:=by intro zz;refine QY (St _ _ _ _) 8 ((0,true)::(1,true)::(2,true)::(3,true)::(4,true)::(5,true)::(6,true)::(7,true)::[]) YN YN (hS.drew) ?_;exact zz.out):A:=k ⟨h⟩
theorem Zg5 (h:B) (k:Zh B→A:=by intro zz;(first|refine Qd rfl (fun _ hS=>QhH rfl rfl Yo) rfl ?_|refine Qd rfl (fun _ hS=>QhI rfl rfl Yo) rfl ?_);exact zz.out):A:=k ⟨h⟩
theorem Zg6 (h:B) (k:Zh B→A:=by intro zz;(first|refine Qa (Qb (k:=4) hS rfl rfl rfl Ym Yp) rfl ?_|refine Qa (Qb (k:=4) hS rfl rfl rfl Ym Yo) rfl ?_|refine Qa (QQ rfl rfl rfl YD YD YD YD) rfl ?_);exact zz.out):A:=k ⟨h⟩
theorem Zg7 (h:B) (k:Zh B→A:=by intro zz;(first|refine Qd rfl (fun _ hS=>Qe hS rfl rfl Ym Yp) rfl ?_|refine Qd rfl (fun _ hS=>Qi rfl rfl (by first|assumption|exact hgc _ hS|exact hS.cell0 Yo|exact lv_next hS|exact lv_list hS)) rfl ?_);exact zz.out):A:=k ⟨h⟩
theorem Zg8 (h:B) (k:Zh B→A:=by intro zz;refine Qhc (by first|exact hS.only1|exact hS.drop.only1|exact hS.unlearn.only1|exact hS.unlearn.drop.only1) ?_;exact zz.out):A:=k ⟨h⟩
theorem Zg9 (h:B) (k:Zh B→A:=by intro zz;refine Calls.mono (Qm2 x.h (Qt y.cl) hA hB y.A hc hd y.c _ hok'.hh (hfl.imp fun w h=>h.1) hS) ?_;exact zz.out):A:=k ⟨h⟩
theorem Zha (h:B) (k:Zh B→A:=by intro zz;(first|refine Qa (Qb (k:=2) hS rfl rfl rfl Ym Yp) rfl ?_|refine Qa (Qb (k:=2) hS rfl rfl rfl Ym Yo) rfl ?_|refine Qa (QaP rfl rfl rfl Yaf Yaf) rfl ?_);exact zz.out):A:=k ⟨h⟩
theorem Zhb (h:B) (k:Zh B→A:=by intro zz;(first|refine Qa (Qdn (sz:=4) rfl rfl rfl rfl YG YG YG) rfl ?_|refine Qa (Qbz (sz:=4) rfl rfl rfl rfl YG YG) rfl ?_);exact zz.out):A:=k ⟨h⟩
theorem Zhc (h:B) (k:Zh B→A:=by intro zz;refine QY (St _ w0 [_,_] []) 10 ((0,true)::(1,true)::(2,true)::(3,true)::(4,true)::(5,true)::(6,false)::(7,false)::(8,true)::(9,true)::[]) YN YN (hS.drew.bare2) ?_;exact zz.out):A:=k ⟨h⟩
theorem Zhd (h:B) (k:Zh B→A:=by intro zz;refine Calls.mono (Qks x a _ ha ⟨_,hl.choose_spec.1⟩ ⟨_,hl1.choose_spec.1⟩ hlen ⟨_,F,hFF,hok,hS⟩) ?_;exact zz.out):A:=k ⟨h⟩
theorem Zhe (h:B) (k:Zh B→A:=by intro zz;(first|refine Qa (Qe hS rfl rfl Ym Yp) rfl ?_|refine Qa (Qi rfl rfl (by first|assumption|exact hsv _ hS (.tail _ (.head _))|exact hS.cell0 Yo|exact lv_next hS|exact lv_list hS)) rfl ?_);exact zz.out):A:=k ⟨h⟩
theorem Zhf (h:B) (k:Zh B→A:=by intro zz;(first|refine QC rfl rfl rfl (fun _ hS=>run_rem10 rfl rfl) rfl ?_|refine QC rfl rfl rfl (fun _ hS=>Qrg rfl rfl YG YG YG) rfl ?_|refine QC rfl rfl rfl (fun _ hS=>Qrh rfl rfl YG YG) rfl ?_);exact zz.out):A:=k ⟨h⟩
theorem Zhg (h:B) (k:Zh B→A:=by intro zz;(first|refine Qa (Qb (k:=3) hS rfl rfl rfl Ym Yp) rfl ?_|refine Qa (Qb (k:=3) hS rfl rfl rfl Ym Yo) rfl ?_|refine Qa (QaV rfl rfl rfl YJ YJ YJ) rfl ?_);exact zz.out):A:=k ⟨h⟩
theorem Zhh (h:B) (k:Zh B→A:=by intro zz;(first|refine Qd rfl (fun _ hS=>Qe hS rfl rfl Ym Yp) rfl ?_|refine Qd rfl (fun _ hS=>Qi rfl rfl YX) rfl ?_);exact zz.out):A:=k ⟨h⟩
theorem Zhi (h:B) (k:Zh B→A:=by intro zz;(first|refine Qa (Qb (k:=6) hS rfl rfl rfl Ym Yp) rfl ?_|refine Qa (Qb (k:=6) hS rfl rfl rfl Ym Yo) rfl ?_|refine Qa (QeI rfl rfl rfl Yz Yz Yz Yz Yz Yz) rfl ?_);exact zz.out):A:=k ⟨h⟩
theorem Zhj (h:B) (k:Zh B→A:=by intro zz;refine Qb9 (sz:=1) (bts:=8) hS Yq rfl rfl rfl rfl (hrow) rfl rfl (.cons _ (List.perm_append_comm_assoc [_] O _)) YG YG rfl ?_;exact zz.out):A:=k ⟨h⟩
theorem Zhk (h:B) (k:Zh B→A:=by intro zz;refine Qb8 (QdJ YN (QtN Yq Yq Yq Yq)) rfl ?_;exact zz.out):A:=k ⟨h⟩
theorem Zhl (h:B) (k:Zh B→A:=by intro zz;(first|refine Qa (Qe hS rfl rfl Ym Yp) rfl ?_|refine Qa (Qi rfl rfl Yam) rfl ?_);exact zz.out):A:=k ⟨h⟩
theorem Zhm (h:B) (k:Zh B→A:=by intro zz;refine QY (St _ _ _ _) 11 ((0,true)::(1,true)::(2,true)::(3,true)::(4,true)::(5,true)::(6,true)::(7,true)::(8,true)::(9,true)::(10,true)::[]) YN YN (hS.drew) ?_;exact zz.out):A:=k ⟨h⟩
theorem Zf (h:B) (k:Zh B→A:=by intro zz;refine Zp ?_;refine Zaz ?_;exact zz.out):A:=k ⟨h⟩
theorem Zd (h:B) (k:Zh B→A:=by intro zz;refine Zct ?_;refine Zc ?_;exact zz.out):A:=k ⟨h⟩
theorem Zv (h:B) (k:Zh B→A:=by intro zz;refine Zf ?_;refine Ze ?_;exact zz.out):A:=k ⟨h⟩
theorem Zq (h:B) (k:Zh B→A:=by intro zz;refine Zp ?_;refine Zv ?_;exact zz.out):A:=k ⟨h⟩
theorem Zf9 (h:B) (k:Zh B→A:=by intro zz;refine Zc ?_;refine ZeS ?_;exact zz.out):A:=k ⟨h⟩
theorem Zz (h:B) (k:Zh B→A:=by intro zz;refine Zf9 ?_;refine Zcu ?_;exact zz.out):A:=k ⟨h⟩
theorem ZA (h:B) (k:Zh B→A:=by intro zz;refine Ze ?_;refine Zi ?_;exact zz.out):A:=k ⟨h⟩
theorem ZF (h:B) (k:Zh B→A:=by intro zz;refine Zc ?_;refine Za9 ?_;exact zz.out):A:=k ⟨h⟩
theorem Zl (h:B) (k:Zh B→A:=by intro zz;refine Zf ?_;refine Zd ?_;exact zz.out):A:=k ⟨h⟩
theorem Z8 (h:B) (k:Zh B→A:=by intro zz;refine Zc ?_;refine Zp ?_;exact zz.out):A:=k ⟨h⟩
theorem Zn (h:B) (k:Zh B→A:=by intro zz;refine Zct ?_;refine Zd ?_;exact zz.out):A:=k ⟨h⟩
theorem Zga (h:B) (k:Zh B→A:=by intro zz;refine Zbq ?_;refine Zbq ?_;exact zz.out):A:=k ⟨h⟩
theorem Zbz (h:B) (k:Zh B→A:=by intro zz;refine Zf ?_;refine Z3 ?_;exact zz.out):A:=k ⟨h⟩
theorem Zt (h:B) (k:Zh B→A:=by intro zz;refine Zv ?_;refine Ze ?_;exact zz.out):A:=k ⟨h⟩
theorem Zhn (h:B) (k:Zh B→A:=by intro zz;refine Zf ?_;refine ZH ?_;refine Z8 ?_;exact zz.out):A:=k ⟨h⟩
theorem Zho (h:B) (k:Zh B→A:=by intro zz;refine Ze ?_;refine Zc ?_;exact zz.out):A:=k ⟨h⟩
theorem ZaE (h:B) (k:Zh B→A:=by intro zz;refine Zp ?_;refine Zcv ?_;exact zz.out):A:=k ⟨h⟩
theorem ZcD (h:B) (k:Zh B→A:=by intro zz;refine Zd ?_;refine ZeS ?_;exact zz.out):A:=k ⟨h⟩
theorem Zgb (h:B) (k:Zh B→A:=by intro zz;refine Zcu ?_;refine ZaE ?_;exact zz.out):A:=k ⟨h⟩
theorem ZaP (h:B) (k:Zh B→A:=by intro zz;refine Ze ?_;refine Zga ?_;exact zz.out):A:=k ⟨h⟩
theorem Zat (h:B) (k:Zh B→A:=by intro zz;refine Zp ?_;refine Zbz ?_;exact zz.out):A:=k ⟨h⟩
theorem Zfo (h:B) (k:Zh B→A:=by intro zz;refine ZaL ?_;refine Zaz ?_;exact zz.out):A:=k ⟨h⟩
theorem Zw (h:B) (k:Zh B→A:=by intro zz;refine Zd ?_;refine Zq ?_;exact zz.out):A:=k ⟨h⟩
theorem Zg (h:B) (k:Zh B→A:=by intro zz;refine Zf ?_;refine ZaX ?_;exact zz.out):A:=k ⟨h⟩
theorem Zhp (h:B) (k:Zh B→A:=by intro zz;refine ZcD ?_;refine Zf ?_;exact zz.out):A:=k ⟨h⟩
theorem ZeF (h:B) (k:Zh B→A:=by intro zz;refine ZQ ?_;refine Zho ?_;exact zz.out):A:=k ⟨h⟩
theorem Zag (h:B) (k:Zh B→A:=by intro zz;refine Zv ?_;refine ZB ?_;exact zz.out):A:=k ⟨h⟩
theorem Zfp (h:B) (k:Zh B→A:=by intro zz;refine Zhn ?_;refine Za9 ?_;refine Zgb ?_;exact zz.out):A:=k ⟨h⟩
theorem ZbA (h:B) (k:Zh B→A:=by intro zz;refine Zfo ?_;refine ZeF ?_;exact zz.out):A:=k ⟨h⟩
theorem Zbd (h:B) (k:Zh B→A:=by intro zz;refine Zr ?_;refine ZF ?_;exact zz.out):A:=k ⟨h⟩
theorem ZZ (h:B) (k:Zh B→A:=by intro zz;refine Zz ?_;refine Zq ?_;exact zz.out):A:=k ⟨h⟩
theorem ZT (h:B) (k:Zh B→A:=by intro zz;refine Zaz ?_;refine Ze ?_;exact zz.out):A:=k ⟨h⟩
theorem ZJ (h:B) (k:Zh B→A:=by intro zz;refine ZX ?_;refine ZG ?_;exact zz.out):A:=k ⟨h⟩
theorem Zah (h:B) (k:Zh B→A:=by intro zz;refine ZV ?_;refine Zi ?_;exact zz.out):A:=k ⟨h⟩
theorem ZR (h:B) (k:Zh B→A:=by intro zz;refine ZD ?_;refine ZbT ?_;exact zz.out):A:=k ⟨h⟩
theorem Z9 (h:B) (k:Zh B→A:=by intro zz;refine ZA ?_;refine ZA ?_;exact zz.out):A:=k ⟨h⟩
theorem ZeG (h:B) (k:Zh B→A:=by intro zz;refine Zef ?_;refine Zb ?_;exact zz.out):A:=k ⟨h⟩
theorem ZL (h:B) (k:Zh B→A:=by intro zz;refine Zhn ?_;refine ZeS ?_;refine ZaW ?_;exact zz.out):A:=k ⟨h⟩
theorem Zdt (h:B) (k:Zh B→A:=by intro zz;refine Zho ?_;refine Zcv ?_;exact zz.out):A:=k ⟨h⟩
theorem Zx (h:B) (k:Zh B→A:=by intro zz;refine Zl ?_;refine Zq ?_;exact zz.out):A:=k ⟨h⟩
theorem Zu (h:B) (k:Zh B→A:=by intro zz;refine ZC ?_;refine ZeG ?_;exact zz.out):A:=k ⟨h⟩
theorem ZM (h:B) (k:Zh B→A:=by intro zz;refine Za ?_;refine Zd ?_;exact zz.out):A:=k ⟨h⟩
theorem Zgc (h:B) (k:Zh B→A:=by intro zz;refine ZfA ?_;refine ZfA ?_;exact zz.out):A:=k ⟨h⟩
theorem Zhq (h:B) (k:Zh B→A:=by intro zz;refine ZeT ?_;refine ZeT ?_;exact zz.out):A:=k ⟨h⟩
theorem Zai (h:B) (k:Zh B→A:=by intro zz;refine Zv ?_;refine Zd ?_;exact zz.out):A:=k ⟨h⟩
theorem Zbe (h:B) (k:Zh B→A:=by intro zz;refine Ze ?_;refine Zhq ?_;exact zz.out):A:=k ⟨h⟩
theorem Zhr (h:B) (k:Zh B→A:=by intro zz;refine Zcv ?_;refine Zf ?_;exact zz.out):A:=k ⟨h⟩
theorem Zaj (h:B) (k:Zh B→A:=by intro zz;refine Zm ?_;refine Zi ?_;exact zz.out):A:=k ⟨h⟩
theorem Zad (h:B) (k:Zh B→A:=by intro zz;refine Zf ?_;refine ZV ?_;exact zz.out):A:=k ⟨h⟩
theorem Zbf (h:B) (k:Zh B→A:=by intro zz;refine Zc ?_;refine Zhr ?_;exact zz.out):A:=k ⟨h⟩
theorem ZN (h:B) (k:Zh B→A:=by intro zz;refine ZO ?_;refine Zdt ?_;exact zz.out):A:=k ⟨h⟩
theorem Zbg (h:B) (k:Zh B→A:=by intro zz;refine Z3 ?_;refine Zi ?_;exact zz.out):A:=k ⟨h⟩
theorem ZeH (h:B) (k:Zh B→A:=by intro zz;refine Zk ?_;refine Zhp ?_;exact zz.out):A:=k ⟨h⟩
theorem Zbh (h:B) (k:Zh B→A:=by intro zz;refine ZaP ?_;refine Zga ?_;exact zz.out):A:=k ⟨h⟩
theorem ZaF (h:B) (k:Zh B→A:=by intro zz;refine ZB ?_;refine Z3 ?_;exact zz.out):A:=k ⟨h⟩
theorem Zfq (h:B) (k:Zh B→A:=by intro zz;refine Zd ?_;refine Za9 ?_;exact zz.out):A:=k ⟨h⟩
theorem ZK (h:B) (k:Zh B→A:=by intro zz;refine Ze ?_;refine Ze ?_;exact zz.out):A:=k ⟨h⟩
theorem ZbZ (h:B) (k:Zh B→A:=by intro zz;refine ZO ?_;refine Zbr ?_;exact zz.out):A:=k ⟨h⟩
theorem Zfr (h:B) (k:Zh B→A:=by intro zz;refine ZX ?_;refine Zj ?_;exact zz.out):A:=k ⟨h⟩
theorem ZU (h:B) (k:Zh B→A:=by intro zz;refine Zr ?_;refine Zz ?_;exact zz.out):A:=k ⟨h⟩
theorem Za2 (h:B) (k:Zh B→A:=by intro zz;refine Zct ?_;refine Zn ?_;exact zz.out):A:=k ⟨h⟩
theorem Zak (h:B) (k:Zh B→A:=by intro zz;refine Zk ?_;refine Zz ?_;exact zz.out):A:=k ⟨h⟩
theorem ZbB (h:B) (k:Zh B→A:=by intro zz;refine ZA ?_;refine Zah ?_;exact zz.out):A:=k ⟨h⟩
theorem Z0 (h:B) (k:Zh B→A:=by intro zz;refine ZF ?_;refine Zl ?_;exact zz.out):A:=k ⟨h⟩
theorem Zb0 (h:B) (k:Zh B→A:=by intro zz;refine ZC ?_;refine Zfr ?_;exact zz.out):A:=k ⟨h⟩
theorem ZP (h:B) (k:Zh B→A:=by intro zz;refine ZE ?_;refine Zz ?_;exact zz.out):A:=k ⟨h⟩
theorem Zdu (h:B) (k:Zh B→A:=by intro zz;refine Zat ?_;refine Zm ?_;exact zz.out):A:=k ⟨h⟩
theorem Zb1 (h:B) (k:Zh B→A:=by intro zz;refine Zat ?_;refine ZaA ?_;exact zz.out):A:=k ⟨h⟩
theorem ZcE (h:B) (k:Zh B→A:=by intro zz;refine Z4 ?_;refine Zhp ?_;exact zz.out):A:=k ⟨h⟩
theorem ZaQ (h:B) (k:Zh B→A:=by intro zz;refine ZaA ?_;refine Zi ?_;exact zz.out):A:=k ⟨h⟩
theorem Zb2 (h:B) (k:Zh B→A:=by intro zz;refine Zfp ?_;refine Zf ?_;exact zz.out):A:=k ⟨h⟩
theorem Zb3 (h:B) (k:Zh B→A:=by intro zz;refine Zbd ?_;refine Zf ?_;exact zz.out):A:=k ⟨h⟩
theorem Za3 (h:B) (k:Zh B→A:=by intro zz;refine Zr ?_;refine Zd ?_;exact zz.out):A:=k ⟨h⟩
theorem Zan (h:B) (k:Zh B→A:=by intro zz;refine ZR ?_;refine Z1 ?_;exact zz.out):A:=k ⟨h⟩
theorem Zau (h:B) (k:Zh B→A:=by intro zz;refine Zd ?_;refine Zv ?_;exact zz.out):A:=k ⟨h⟩
theorem Zav (h:B) (k:Zh B→A:=by intro zz;refine Zd ?_;refine Zp ?_;exact zz.out):A:=k ⟨h⟩
theorem Zb4 (h:B) (k:Zh B→A:=by intro zz;refine ZI ?_;refine Ze ?_;exact zz.out):A:=k ⟨h⟩
theorem ZaR (h:B) (k:Zh B→A:=by intro zz;refine Zf9 ?_;refine ZaW ?_;exact zz.out):A:=k ⟨h⟩
theorem ZaG (h:B) (k:Zh B→A:=by intro zz;refine Zag ?_;refine Z3 ?_;exact zz.out):A:=k ⟨h⟩
theorem Zdv (h:B) (k:Zh B→A:=by intro zz;refine Zk ?_;refine Zfq ?_;exact zz.out):A:=k ⟨h⟩
theorem Zb5 (h:B) (k:Zh B→A:=by intro zz;refine ZaP ?_;refine Zbq ?_;exact zz.out):A:=k ⟨h⟩
theorem Zaa (h:B) (k:Zh B→A:=by intro zz;refine ZC ?_;refine ZJ ?_;exact zz.out):A:=k ⟨h⟩
theorem ZeI (h:B) (k:Zh B→A:=by intro zz;refine Zad ?_;refine Zm ?_;exact zz.out):A:=k ⟨h⟩
theorem ZcF (h:B) (k:Zh B→A:=by intro zz;refine ZF ?_;refine Zf ?_;exact zz.out):A:=k ⟨h⟩
theorem Zb6 (h:B) (k:Zh B→A:=by intro zz;refine Zd ?_;refine Zdu ?_;exact zz.out):A:=k ⟨h⟩
theorem ZbC (h:B) (k:Zh B→A:=by intro zz;refine ZA ?_;refine Zbg ?_;exact zz.out):A:=k ⟨h⟩
theorem ZbD (h:B) (k:Zh B→A:=by intro zz;refine ZO ?_;refine Z5 ?_;exact zz.out):A:=k ⟨h⟩
theorem Za4 (h:B) (k:Zh B→A:=by intro zz;refine Zam ?_;refine Zi ?_;exact zz.out):A:=k ⟨h⟩
theorem Zae (h:B) (k:Zh B→A:=by intro zz;refine Zcw ?_;refine Zi ?_;exact zz.out):A:=k ⟨h⟩
theorem Zbi (h:B) (k:Zh B→A:=by intro zz;refine Zn ?_;refine Zq ?_;exact zz.out):A:=k ⟨h⟩
theorem ZaS (h:B) (k:Zh B→A:=by intro zz;refine Ze ?_;refine ZQ ?_;exact zz.out):A:=k ⟨h⟩
theorem ZbE (h:B) (k:Zh B→A:=by intro zz;refine Zba ?_;refine Zm ?_;exact zz.out):A:=k ⟨h⟩
theorem Zhs (h:B) (k:Zh B→A:=by intro zz;refine Zq ?_;refine ZaM ?_;exact zz.out):A:=k ⟨h⟩
theorem Zal (h:B) (k:Zh B→A:=by intro zz;refine Ze ?_;refine Zj ?_;exact zz.out):A:=k ⟨h⟩
theorem ZbF (h:B) (k:Zh B→A:=by intro zz;refine Zi ?_;refine ZE ?_;exact zz.out):A:=k ⟨h⟩
theorem Zdw (h:B) (k:Zh B→A:=by intro zz;refine Zbf ?_;refine ZeH ?_;exact zz.out):A:=k ⟨h⟩
theorem Zao (h:B) (k:Zh B→A:=by intro zz;refine Zc ?_;refine Zq ?_;exact zz.out):A:=k ⟨h⟩
theorem Zap (h:B) (k:Zh B→A:=by intro zz;refine Zd ?_;refine ZbA ?_;exact zz.out):A:=k ⟨h⟩
theorem ZbG (h:B) (k:Zh B→A:=by intro zz;refine Zgc ?_;refine Zgc ?_;exact zz.out):A:=k ⟨h⟩
theorem Zaq (h:B) (k:Zh B→A:=by intro zz;refine ZB ?_;refine Zam ?_;exact zz.out):A:=k ⟨h⟩
theorem ZeJ (h:B) (k:Zh B→A:=by intro zz;refine ZeU ?_;refine ZeU ?_;exact zz.out):A:=k ⟨h⟩
theorem ZbH (h:B) (k:Zh B→A:=by intro zz;refine Zbe ?_;refine ZeT ?_;exact zz.out):A:=k ⟨h⟩
theorem Zfs (h:B) (k:Zh B→A:=by intro zz;refine Z1 ?_;refine ZeV ?_;exact zz.out):A:=k ⟨h⟩
theorem Zaw (h:B) (k:Zh B→A:=by intro zz;refine ZF ?_;refine ZT ?_;exact zz.out):A:=k ⟨h⟩
theorem ZbI (h:B) (k:Zh B→A:=by intro zz;refine Z8 ?_;refine Zbz ?_;exact zz.out):A:=k ⟨h⟩
theorem ZbJ (h:B) (k:Zh B→A:=by intro zz;refine ZO ?_;refine Zi ?_;exact zz.out):A:=k ⟨h⟩
theorem Zax (h:B) (k:Zh B→A:=by intro zz;refine Zfp ?_;refine Zai ?_;exact zz.out):A:=k ⟨h⟩
theorem Zdx (h:B) (k:Zh B→A:=by intro zz;refine Zdv ?_;refine ZeI ?_;exact zz.out):A:=k ⟨h⟩
theorem Zb7 (h:B) (k:Zh B→A:=by intro zz;refine Zfp ?_;refine Zv ?_;exact zz.out):A:=k ⟨h⟩
theorem Zay (h:B) (k:Zh B→A:=by intro zz;refine Zc ?_;refine ZbA ?_;exact zz.out):A:=k ⟨h⟩
theorem ZaH (h:B) (k:Zh B→A:=by intro zz;refine ZB ?_;refine Zc8 ?_;exact zz.out):A:=k ⟨h⟩
theorem Zb8 (h:B) (k:Zh B→A:=by intro zz;refine Zc ?_;refine Zt ?_;exact zz.out):A:=k ⟨h⟩
theorem Zgd (h:B) (k:Zh B→A:=by intro zz;refine Zbh ?_;refine Zga ?_;exact zz.out):A:=k ⟨h⟩
theorem ZaI (h:B) (k:Zh B→A:=by intro zz;refine Zp ?_;refine Zf ?_;exact zz.out):A:=k ⟨h⟩
theorem Zb9 (h:B) (k:Zh B→A:=by intro zz;refine Zv ?_;refine Zj ?_;exact zz.out):A:=k ⟨h⟩
theorem ZaJ (h:B) (k:Zh B→A:=by intro zz;refine Zr ?_;refine Z9 ?_;exact zz.out):A:=k ⟨h⟩
theorem ZaK (h:B) (k:Zh B→A:=by intro zz;refine Zz ?_;refine ZbA ?_;exact zz.out):A:=k ⟨h⟩
theorem ZeK (h:B) (k:Zh B→A:=by intro zz;refine ZZ ?_;refine ZH ?_;exact zz.out):A:=k ⟨h⟩
theorem Zft (h:B) (k:Zh B→A:=by intro zz;refine Zb4 ?_;refine Z6 ?_;exact zz.out):A:=k ⟨h⟩
theorem ZcG (h:B) (k:Zh B→A:=by intro zz;refine Ze ?_;refine ZS ?_;exact zz.out):A:=k ⟨h⟩
theorem Zdy (h:B) (k:Zh B→A:=by intro zz;refine ZbB ?_;refine Zaj ?_;exact zz.out):A:=k ⟨h⟩
theorem Zfu (h:B) (k:Zh B→A:=by intro zz;refine ZaF ?_;refine Zam ?_;exact zz.out):A:=k ⟨h⟩
theorem Zdz (h:B) (k:Zh B→A:=by intro zz;refine Ze ?_;refine Zab ?_;exact zz.out):A:=k ⟨h⟩
theorem ZaT (h:B) (k:Zh B→A:=by intro zz;refine ZM ?_;refine ZbU ?_;exact zz.out):A:=k ⟨h⟩
theorem ZaU (h:B) (k:Zh B→A:=by intro zz;refine Zb0 ?_;refine Zgo ?_;exact zz.out):A:=k ⟨h⟩
theorem ZcH (h:B) (k:Zh B→A:=by intro zz;refine Za3 ?_;refine ZeW ?_;exact zz.out):A:=k ⟨h⟩
theorem ZaV (h:B) (k:Zh B→A:=by intro zz;refine ZE ?_;refine ZcF ?_;exact zz.out):A:=k ⟨h⟩
theorem ZeL (h:B) (k:Zh B→A:=by intro zz;refine Zgd ?_;refine Zbq ?_;exact zz.out):A:=k ⟨h⟩
theorem ZeM (h:B) (k:Zh B→A:=by intro zz;refine ZB ?_;refine Zi ?_;exact zz.out):A:=k ⟨h⟩
theorem Za5 (h:B) (k:Zh B→A:=by intro zz;refine Zi ?_;refine Zr ?_;exact zz.out):A:=k ⟨h⟩
theorem Za6 (h:B) (k:Zh B→A:=by intro zz;refine Zag ?_;refine Zam ?_;exact zz.out):A:=k ⟨h⟩
theorem Za7 (h:B) (k:Zh B→A:=by intro zz;refine ZD ?_;refine ZD ?_;exact zz.out):A:=k ⟨h⟩
theorem Zfv (h:B) (k:Zh B→A:=by intro zz;refine Zb6 ?_;refine Zdw ?_;exact zz.out):A:=k ⟨h⟩
theorem Za8 (h:B) (k:Zh B→A:=by intro zz;refine Zv ?_;refine Zs ?_;exact zz.out):A:=k ⟨h⟩
theorem ZdA (h:B) (k:Zh B→A:=by intro zz;refine Zw ?_;refine ZH ?_;exact zz.out):A:=k ⟨h⟩
theorem Zge (h:B) (k:Zh B→A:=by intro zz;refine Zcu ?_;refine Zcv ?_;exact zz.out):A:=k ⟨h⟩
theorem ZeN (h:B) (k:Zh B→A:=by intro zz;refine Zt ?_;refine Za2 ?_;refine ZhA ?_;exact zz.out):A:=k ⟨h⟩
theorem ZeO (h:B) (k:Zh B→A:=by intro zz;refine ZH ?_;refine ZZ ?_;exact zz.out):A:=k ⟨h⟩
theorem Zbj (h:B) (k:Zh B→A:=by intro zz;refine Zc ?_;refine Zbz ?_;exact zz.out):A:=k ⟨h⟩
theorem Zgf (h:B) (k:Zh B→A:=by intro zz;refine ZbZ ?_;refine Zd ?_;exact zz.out):A:=k ⟨h⟩
theorem ZeP (h:B) (k:Zh B→A:=by intro zz;refine Zar ?_;refine ZaZ ?_;exact zz.out):A:=k ⟨h⟩
theorem Zgg (h:B) (k:Zh B→A:=by intro zz;refine Ze ?_;refine Zbr ?_;exact zz.out):A:=k ⟨h⟩
theorem Zbk (h:B) (k:Zh B→A:=by intro zz;refine Zb1 ?_;refine Zak ?_;exact zz.out):A:=k ⟨h⟩
theorem Zfw (h:B) (k:Zh B→A:=by intro zz;refine Zr ?_;refine ZA ?_;exact zz.out):A:=k ⟨h⟩
theorem Zgh (h:B) (k:Zh B→A:=by intro zz;refine Zbf ?_;refine ZcE ?_;exact zz.out):A:=k ⟨h⟩
theorem Zbl (h:B) (k:Zh B→A:=by intro zz;refine Zj ?_;refine Zgo ?_;exact zz.out):A:=k ⟨h⟩
theorem Zbm (h:B) (k:Zh B→A:=by intro zz;refine Zt ?_;refine Zj ?_;exact zz.out):A:=k ⟨h⟩
theorem Zbn (h:B) (k:Zh B→A:=by intro zz;refine Zc7 ?_;refine ZhB ?_;exact zz.out):A:=k ⟨h⟩
theorem Zbo (h:B) (k:Zh B→A:=by intro zz;refine Zb3 ?_;refine Zn ?_;exact zz.out):A:=k ⟨h⟩
theorem ZeQ (h:B) (k:Zh B→A:=by intro zz;refine Zd ?_;refine Zbz ?_;exact zz.out):A:=k ⟨h⟩
theorem Zfx (h:B) (k:Zh B→A:=by intro zz;refine Z3 ?_;refine Zft ?_;exact zz.out):A:=k ⟨h⟩
theorem Zbp (h:B) (k:Zh B→A:=by intro zz;refine Zt ?_;refine ZQ ?_;exact zz.out):A:=k ⟨h⟩
theorem ZeR (h:B) (k:Zh B→A:=by intro zz;refine Zaf ?_;refine Zb ?_;exact zz.out):A:=k ⟨h⟩
theorem Zfy (h:B) (k:Zh B→A:=by intro zz;refine Zq ?_;refine ZbD ?_;exact zz.out):A:=k ⟨h⟩
theorem Zht (h:B) (k:Zh B→A:=by intro zz;refine ZF ?_;refine Zgb ?_;exact zz.out):A:=k ⟨h⟩
theorem ZbK (h:B) (k:Zh B→A:=by intro zz;refine Zbh ?_;refine Zbq ?_;exact zz.out):A:=k ⟨h⟩
theorem Zhu (h:B) (k:Zh B→A:=by intro zz;refine Zef ?_;refine Zc ?_;exact zz.out):A:=k ⟨h⟩
theorem ZbL (h:B) (k:Zh B→A:=by intro zz;refine Zfu ?_;refine Z2 ?_;exact zz.out):A:=k ⟨h⟩
theorem Zfz (h:B) (k:Zh B→A:=by intro zz;refine ZaY ?_;refine ZaY ?_;exact zz.out):A:=k ⟨h⟩
theorem ZbM (h:B) (k:Zh B→A:=by intro zz;refine Zo ?_;refine ZbC ?_;exact zz.out):A:=k ⟨h⟩
theorem ZbN (h:B) (k:Zh B→A:=by intro zz;refine ZhC ?_;refine ZY ?_;exact zz.out):A:=k ⟨h⟩
theorem ZbO (h:B) (k:Zh B→A:=by intro zz;refine Zw ?_;refine ZN ?_;exact zz.out):A:=k ⟨h⟩
theorem ZbP (h:B) (k:Zh B→A:=by intro zz;refine ZeK ?_;refine Z9 ?_;exact zz.out):A:=k ⟨h⟩
theorem ZbQ (h:B) (k:Zh B→A:=by intro zz;refine Ze ?_;refine ZO ?_;exact zz.out):A:=k ⟨h⟩
theorem Zgi (h:B) (k:Zh B→A:=by intro zz;refine Zdx ?_;refine ZaM ?_;exact zz.out):A:=k ⟨h⟩
theorem ZbR (h:B) (k:Zh B→A:=by intro zz;refine Zb2 ?_;refine ZS ?_;exact zz.out):A:=k ⟨h⟩
theorem ZbS (h:B) (k:Zh B→A:=by intro zz;refine ZX ?_;refine Zbs ?_;exact zz.out):A:=k ⟨h⟩
theorem Zgj (h:B) (k:Zh B→A:=by intro zz;refine ZF ?_;refine Zge ?_;exact zz.out):A:=k ⟨h⟩
theorem Zgk (h:B) (k:Zh B→A:=by intro zz;refine Zbr ?_;refine Zau ?_;exact zz.out):A:=k ⟨h⟩
theorem Zca (h:B) (k:Zh B→A:=by intro zz;refine ZH ?_;refine ZF ?_;exact zz.out):A:=k ⟨h⟩
theorem Zcb (h:B) (k:Zh B→A:=by intro zz;refine Zaj ?_;refine Zk ?_;exact zz.out):A:=k ⟨h⟩
theorem Zcc (h:B) (k:Zh B→A:=by intro zz;refine ZV ?_;refine Zm ?_;exact zz.out):A:=k ⟨h⟩
theorem Zcd (h:B) (k:Zh B→A:=by intro zz;refine Zgf ?_;refine Zcv ?_;exact zz.out):A:=k ⟨h⟩
theorem Zce (h:B) (k:Zh B→A:=by intro zz;refine Zhs ?_;refine ZaR ?_;exact zz.out):A:=k ⟨h⟩
theorem Zcf (h:B) (k:Zh B→A:=by intro zz;refine Zhs ?_;refine Zht ?_;exact zz.out):A:=k ⟨h⟩
theorem Zcg (h:B) (k:Zh B→A:=by intro zz;refine Zba ?_;refine ZaA ?_;exact zz.out):A:=k ⟨h⟩
theorem Zgl (h:B) (k:Zh B→A:=by intro zz;refine Zfo ?_;refine Zgg ?_;refine Zd ?_;exact zz.out):A:=k ⟨h⟩
theorem Zch (h:B) (k:Zh B→A:=by intro zz;refine Zc ?_;refine Zag ?_;exact zz.out):A:=k ⟨h⟩
theorem Zci (h:B) (k:Zh B→A:=by intro zz;refine Z4 ?_;refine Zfq ?_;exact zz.out):A:=k ⟨h⟩
theorem Zcj (h:B) (k:Zh B→A:=by intro zz;refine Zgh ?_;refine ZcE ?_;exact zz.out):A:=k ⟨h⟩
theorem Zck (h:B) (k:Zh B→A:=by intro zz;refine ZcD ?_;refine Zcu ?_;refine ZaL ?_;exact zz.out):A:=k ⟨h⟩
theorem Zcl (h:B) (k:Zh B→A:=by intro zz;refine Zbt ?_;refine Zhu ?_;exact zz.out):A:=k ⟨h⟩
theorem Zcm (h:B) (k:Zh B→A:=by intro zz;refine ZbF ?_;refine Zr ?_;exact zz.out):A:=k ⟨h⟩
theorem Zgm (h:B) (k:Zh B→A:=by intro zz;refine Zfv ?_;refine ZeH ?_;exact zz.out):A:=k ⟨h⟩
theorem Zcn (h:B) (k:Zh B→A:=by intro zz;refine ZfB ?_;refine Z7 ?_;exact zz.out):A:=k ⟨h⟩
theorem Zco (h:B) (k:Zh B→A:=by intro zz;refine ZI ?_;refine Zi ?_;exact zz.out):A:=k ⟨h⟩
theorem Zcp (h:B) (k:Zh B→A:=by intro zz;refine ZL ?_;refine Zai ?_;exact zz.out):A:=k ⟨h⟩
theorem Zcq (h:B) (k:Zh B→A:=by intro zz;refine Zbe ?_;refine Zbi ?_;exact zz.out):A:=k ⟨h⟩
theorem Zcr (h:B) (k:Zh B→A:=by intro zz;refine ZB ?_;refine Zba ?_;exact zz.out):A:=k ⟨h⟩
theorem Zcs (h:B) (k:Zh B→A:=by intro zz;refine ZB ?_;refine ZbE ?_;exact zz.out):A:=k ⟨h⟩
theorem Zgn (h:B) (k:Zh B→A:=by intro zz;refine Zc7 ?_;refine ZeV ?_;exact zz.out):A:=k ⟨h⟩
theorem Zhv (h:B) (k:Zh B→A:=by intro zz;refine Zb1 ?_;refine Zk ?_;exact zz.out):A:=k ⟨h⟩
theorem ZcI (h:B) (k:Zh B→A:=by intro zz;refine ZaA ?_;refine Zo ?_;exact zz.out):A:=k ⟨h⟩
theorem ZcJ (h:B) (k:Zh B→A:=by intro zz;refine Zr ?_;refine ZeL ?_;exact zz.out):A:=k ⟨h⟩
theorem ZcK (h:B) (k:Zh B→A:=by intro zz;refine Zfw ?_;refine Za4 ?_;exact zz.out):A:=k ⟨h⟩
theorem ZcL (h:B) (k:Zh B→A:=by intro zz;refine Zgp ?_;refine Zb ?_;exact zz.out):A:=k ⟨h⟩
theorem ZcM (h:B) (k:Zh B→A:=by intro zz;refine Zc ?_;refine Zf ?_;exact zz.out):A:=k ⟨h⟩
theorem ZcN (h:B) (k:Zh B→A:=by intro zz;refine ZX ?_;refine Zab ?_;exact zz.out):A:=k ⟨h⟩
theorem ZcO (h:B) (k:Zh B→A:=by intro zz;refine Zm ?_;refine ZO ?_;exact zz.out):A:=k ⟨h⟩
theorem ZcP (h:B) (k:Zh B→A:=by intro zz;refine ZaY ?_;refine Zcx ?_;refine Zcx ?_;exact zz.out):A:=k ⟨h⟩
theorem ZcQ (h:B) (k:Zh B→A:=by intro zz;refine ZeM ?_;refine Zbg ?_;exact zz.out):A:=k ⟨h⟩
theorem Zhw (h:B) (k:Zh B→A:=by intro zz;refine ZbG ?_;refine Zgc ?_;exact zz.out):A:=k ⟨h⟩
theorem ZcR (h:B) (k:Zh B→A:=by intro zz;refine Zb2 ?_;refine ZhD ?_;exact zz.out):A:=k ⟨h⟩
theorem ZcS (h:B) (k:Zh B→A:=by intro zz;refine Zeh ?_;refine ZhE ?_;exact zz.out):A:=k ⟨h⟩
theorem ZcT (h:B) (k:Zh B→A:=by intro zz;refine ZL ?_;refine Zl ?_;exact zz.out):A:=k ⟨h⟩
theorem ZcU (h:B) (k:Zh B→A:=by intro zz;refine ZY ?_;refine Zy ?_;exact zz.out):A:=k ⟨h⟩
theorem ZcV (h:B) (k:Zh B→A:=by intro zz;refine Zt ?_;refine Zdz ?_;exact zz.out):A:=k ⟨h⟩
theorem ZcW (h:B) (k:Zh B→A:=by intro zz;refine ZZ ?_;refine Ze ?_;exact zz.out):A:=k ⟨h⟩
theorem ZcX (h:B) (k:Zh B→A:=by intro zz;refine ZT ?_;refine Ze ?_;exact zz.out):A:=k ⟨h⟩
theorem ZcY (h:B) (k:Zh B→A:=by intro zz;refine Zgi ?_;refine Zdy ?_;exact zz.out):A:=k ⟨h⟩
theorem ZcZ (h:B) (k:Zh B→A:=by intro zz;refine Zct ?_;refine Zb ?_;exact zz.out):A:=k ⟨h⟩
theorem Zc0 (h:B) (k:Zh B→A:=by intro zz;refine Zbd ?_;refine Zl ?_;exact zz.out):A:=k ⟨h⟩
theorem Zhx (h:B) (k:Zh B→A:=by intro zz;refine Zeg ?_;refine ZcG ?_;exact zz.out):A:=k ⟨h⟩
theorem Zc1 (h:B) (k:Zh B→A:=by intro zz;refine Zb7 ?_;refine ZS ?_;exact zz.out):A:=k ⟨h⟩
theorem Zc2 (h:B) (k:Zh B→A:=by intro zz;refine Zc ?_;refine Zv ?_;exact zz.out):A:=k ⟨h⟩
theorem Zc3 (h:B) (k:Zh B→A:=by intro zz;refine ZaG ?_;refine Zfx ?_;exact zz.out):A:=k ⟨h⟩
theorem Zc4 (h:B) (k:Zh B→A:=by intro zz;refine Zn ?_;refine ZhF ?_;exact zz.out):A:=k ⟨h⟩
theorem Zhy (h:B) (k:Zh B→A:=by intro zz;refine Zav ?_;refine Zp ?_;exact zz.out):A:=k ⟨h⟩
theorem Zc5 (h:B) (k:Zh B→A:=by intro zz;refine Zd ?_;refine ZhG ?_;exact zz.out):A:=k ⟨h⟩
theorem Zhz (h:B) (k:Zh B→A:=by intro zz;refine Zan ?_;refine Zfs ?_;exact zz.out):A:=k ⟨h⟩
theorem Zc6 (h:B) (k:Zh B→A:=by intro zz;refine ZbH ?_;refine Za2 ?_;exact zz.out):A:=k ⟨h⟩
theorem ZdB (h:B) (k:Zh B→A:=by intro zz;refine Zfy ?_;refine Zgj ?_;refine Zt ?_;refine ZbZ ?_;exact zz.out):A:=k ⟨h⟩
theorem ZdC (h:B) (k:Zh B→A:=by intro zz;refine Zb8 ?_;refine ZbZ ?_;exact zz.out):A:=k ⟨h⟩
theorem ZdD (h:B) (k:Zh B→A:=by intro zz;refine Zw ?_;refine Zgk ?_;exact zz.out):A:=k ⟨h⟩
theorem ZdE (h:B) (k:Zh B→A:=by intro zz;refine Zb0 ?_;refine Zc9 ?_;exact zz.out):A:=k ⟨h⟩
theorem ZdF (h:B) (k:Zh B→A:=by intro zz;refine Zbd ?_;refine ZeN ?_;exact zz.out):A:=k ⟨h⟩
theorem ZdG (h:B) (k:Zh B→A:=by intro zz;refine Zd ?_;refine Zgl ?_;exact zz.out):A:=k ⟨h⟩
theorem ZdH (h:B) (k:Zh B→A:=by intro zz;refine Zhv ?_;refine Zb5 ?_;refine ZU ?_;exact zz.out):A:=k ⟨h⟩
theorem ZdI (h:B) (k:Zh B→A:=by intro zz;refine ZeP ?_;refine ZG ?_;exact zz.out):A:=k ⟨h⟩
theorem ZdJ (h:B) (k:Zh B→A:=by intro zz;refine ZbB ?_;refine ZaQ ?_;refine Zah ?_;refine ZaQ ?_;exact zz.out):A:=k ⟨h⟩
theorem ZdK (h:B) (k:Zh B→A:=by intro zz;refine Zba ?_;refine Zi ?_;exact zz.out):A:=k ⟨h⟩
theorem ZdL (h:B) (k:Zh B→A:=by intro zz;refine Zd ?_;refine Zf ?_;exact zz.out):A:=k ⟨h⟩
theorem ZdM (h:B) (k:Zh B→A:=by intro zz;refine ZhH ?_;refine Zx ?_;exact zz.out):A:=k ⟨h⟩
theorem ZdN (h:B) (k:Zh B→A:=by intro zz;refine Zfz ?_;refine ZfC ?_;exact zz.out):A:=k ⟨h⟩
theorem ZdO (h:B) (k:Zh B→A:=by intro zz;refine Zq ?_;refine ZeO ?_;exact zz.out):A:=k ⟨h⟩
theorem ZdP (h:B) (k:Zh B→A:=by intro zz;refine ZE ?_;refine Z0 ?_;exact zz.out):A:=k ⟨h⟩
theorem ZdQ (h:B) (k:Zh B→A:=by intro zz;refine Zj ?_;refine Zei ?_;exact zz.out):A:=k ⟨h⟩
theorem ZdR (h:B) (k:Zh B→A:=by intro zz;refine Zhw ?_;refine Zbq ?_;exact zz.out):A:=k ⟨h⟩
theorem ZdS (h:B) (k:Zh B→A:=by intro zz;refine Zbd ?_;refine Zb9 ?_;refine ZhI ?_;exact zz.out):A:=k ⟨h⟩
theorem ZdT (h:B) (k:Zh B→A:=by intro zz;refine ZeS ?_;refine Zcu ?_;exact zz.out):A:=k ⟨h⟩
theorem ZdU (h:B) (k:Zh B→A:=by intro zz;refine ZhJ ?_;refine ZhK ?_;refine ZhL ?_;refine ZhM ?_;exact zz.out):A:=k ⟨h⟩
theorem ZdV (h:B) (k:Zh B→A:=by intro zz;refine ZeJ ?_;refine ZeJ ?_;exact zz.out):A:=k ⟨h⟩
theorem ZdW (h:B) (k:Zh B→A:=by intro zz;refine ZE ?_;refine Z9 ?_;exact zz.out):A:=k ⟨h⟩
theorem ZdX (h:B) (k:Zh B→A:=by intro zz;refine Zb5 ?_;refine ZcH ?_;exact zz.out):A:=k ⟨h⟩
theorem ZdY (h:B) (k:Zh B→A:=by intro zz;refine Zgm ?_;refine ZeH ?_;exact zz.out):A:=k ⟨h⟩
theorem ZdZ (h:B) (k:Zh B→A:=by intro zz;refine ZI ?_;refine Zk ?_;exact zz.out):A:=k ⟨h⟩
theorem Zd0 (h:B) (k:Zh B→A:=by intro zz;refine Zhx ?_;refine Zeg ?_;exact zz.out):A:=k ⟨h⟩
theorem Zd1 (h:B) (k:Zh B→A:=by intro zz;refine Zs ?_;refine ZhN ?_;exact zz.out):A:=k ⟨h⟩
theorem Zd2 (h:B) (k:Zh B→A:=by intro zz;refine Zc ?_;refine ZT ?_;exact zz.out):A:=k ⟨h⟩
theorem Zd3 (h:B) (k:Zh B→A:=by intro zz;refine Zda ?_;refine Zb ?_;exact zz.out):A:=k ⟨h⟩
theorem Zd4 (h:B) (k:Zh B→A:=by intro zz;refine ZY ?_;refine Zc ?_;exact zz.out):A:=k ⟨h⟩
theorem Zd5 (h:B) (k:Zh B→A:=by intro zz;refine Zb3 ?_;refine ZeR ?_;exact zz.out):A:=k ⟨h⟩
theorem Zd6 (h:B) (k:Zh B→A:=by intro zz;refine Zt ?_;refine ZaS ?_;exact zz.out):A:=k ⟨h⟩
theorem Zd7 (h:B) (k:Zh B→A:=by intro zz;refine ZbJ ?_;refine Z5 ?_;exact zz.out):A:=k ⟨h⟩
theorem Zd8 (h:B) (k:Zh B→A:=by intro zz;refine ZdA ?_;refine Zz ?_;exact zz.out):A:=k ⟨h⟩
theorem Zd9 (h:B) (k:Zh B→A:=by intro zz;refine Zbe ?_;refine ZG ?_;exact zz.out):A:=k ⟨h⟩
theorem Zea (h:B) (k:Zh B→A:=by intro zz;refine ZbI ?_;refine Zm ?_;exact zz.out):A:=k ⟨h⟩
theorem Zeb (h:B) (k:Zh B→A:=by intro zz;refine ZaF ?_;refine Zb ?_;exact zz.out):A:=k ⟨h⟩
theorem Zec (h:B) (k:Zh B→A:=by intro zz;refine ZeQ ?_;refine ZhO ?_;refine ZQ ?_;refine Zhy ?_;refine Zgq ?_;exact zz.out):A:=k ⟨h⟩
theorem Zed (h:B) (k:Zh B→A:=by intro zz;refine Zhz ?_;refine Zfs ?_;refine Za0 ?_;refine Zgn ?_;refine ZY ?_;exact zz.out):A:=k ⟨h⟩
theorem Zee (h:B) (k:Zh B→A:=by intro zz;refine ZB ?_;refine Zgr ?_;exact zz.out):A:=k ⟨h⟩
theorem Ya (k:A:=by omega):A:=k
theorem Yb (k:A:=by conv=>lhs;whnf):A:=k
theorem Yc (k:A:=by kernel_rfl):A:=k
theorem Yd (k:A:=by simp):A:=k
theorem Ye (k:A:=by assumption):A:=k
theorem Yf (k:A:=by repeat constructor):A:=k
theorem Yg (k:A:=by decide):A:=k
theorem Yh (k:A:=by simp;omega):A:=k
theorem Yi (k:A:=by rfl):A:=k
theorem Yj (k:A:=by simp only [Ts.nodes];omega):A:=k
theorem Yk (k:A:=by simp only [maxLen];omega):A:=k
theorem Yl (k:A:=by simp only [List.length_append,List.length_cons,List.length_nil];omega):A:=k
theorem Ym (k:A:=by first|exact .head|exact .tail .head|exact .tail (.tail .head)|exact .tail (.tail (.tail .head))|exact .tail (.tail (.tail (.tail .head)))|exact .tail (.tail (.tail (.tail (.tail .head))))):A:=k
theorem Yn (k:A:=by first|assumption|exact (hpc1 hFF _ hS).1|exact (hpc1 hFF _ hS).2.1|exact (hpc1 hFF _ hS).2.2.1|exact (hpc1 hFF _ hS).2.2.2.1|exact (hpc1 hFF _ hS).2.2.2.2.1|exact (hpc1 hFF _ hS).2.2.2.2.2|exact (hpc1 hFF _ hS.unlearn).1|exact (hpc1 hFF _ hS.unlearn).2.1|exact (hpc1 hFF _ hS.unlearn).2.2.1|exact (hpc1 hFF _ hS.unlearn).2.2.2.1|exact (hpc1 hFF _ hS.unlearn).2.2.2.2.1|exact (hpc1 hFF _ hS.unlearn).2.2.2.2.2|exact hS.cell0 Ye):A:=k
theorem Yo (k:A:=by assumption):A:=k
theorem Yp (k:A:=by repeat constructor):A:=k
theorem Yq (k:A:=by conv=>lhs;whnf):A:=k
theorem Yr (k:A:=by first|assumption|exact (hpc _ hS).1|exact (hpc _ hS).2.1|exact (hpc _ hS).2.2.1|exact (hpc _ hS).2.2.2.1|exact (hpc _ hS).2.2.2.2.1|exact (hpc _ hS).2.2.2.2.2|exact hS.cell0 Yo):A:=k
theorem Ys (k:A:=by first|assumption|exact (hpc1 hFF _ hS).1|exact (hpc1 hFF _ hS).2.1|exact (hpc1 hFF _ hS).2.2.1|exact (hpc1 hFF _ hS).2.2.2.1|exact (hpc1 hFF _ hS).2.2.2.2.1|exact (hpc1 hFF _ hS).2.2.2.2.2|exact (hpc1 hFF _ hS.unlearn).1|exact (hpc1 hFF _ hS.unlearn).2.1|exact (hpc1 hFF _ hS.unlearn).2.2.1|exact (hpc1 hFF _ hS.unlearn).2.2.2.1|exact (hpc1 hFF _ hS.unlearn).2.2.2.2.1|exact (hpc1 hFF _ hS.unlearn).2.2.2.2.2|exact hS.cell0 Yo):A:=k
theorem Yt (k:A:=by first|assumption|exact (hll _ hS Yf).1|exact (hll _ hS Yf).2.1|exact (hll _ hS Yf).2.2|exact hS.cell0 Ye):A:=k
theorem Yu (k:A:=by first|assumption|exact (hcc _ hS).1|exact (hcc _ hS).2.1|exact (hcc _ hS).2.2.1|exact (hcc _ hS).2.2.2|exact hS.cell0 Ye):A:=k
theorem Yv (k:A:=by intro p hp;obtain rfl:=List.mem_singleton.1 hp;exact hm):A:=k
theorem Yw (k:A:=by first|assumption|exact (hcc _ hS).1|exact (hcc _ hS).2.1|exact (hcc _ hS).2.2|exact hS.cell0 Ye):A:=k
theorem Yx (k:A:=by first|assumption|exact (hpc hF0 _ hS).1|exact (hpc hF0 _ hS).2.1|exact (hpc hF0 _ hS).2.2.1|exact (hpc hF0 _ hS).2.2.2.1|exact (hpc hF0 _ hS).2.2.2.2.1|exact (hpc hF0 _ hS).2.2.2.2.2|exact (hcC _ hS).1|exact (hcC _ hS).2.1|exact (hcC _ hS).2.2.1|exact (hcC _ hS).2.2.2|exact hS.cell0 Yo):A:=k
theorem Yy (k:A:=by first|assumption|exact (hpc hF0 _ hS).1|exact (hpc hF0 _ hS).2.1|exact (hpc hF0 _ hS).2.2.1|exact (hpc hF0 _ hS).2.2.2.1|exact (hpc hF0 _ hS).2.2.2.2.1|exact (hpc hF0 _ hS).2.2.2.2.2|exact (hcC _ hS).1|exact (hcC _ hS).2.1|exact (hcC _ hS).2.2.1|exact (hcC _ hS).2.2.2|exact hS.cell0 Ye):A:=k
theorem Yz (k:A:=by first|assumption|exact hS.cell0 Yo):A:=k
theorem YA (k:A:=by first|assumption|exact (hpc1 hFF2 _ hS).1|exact (hpc1 hFF2 _ hS).2.1|exact (hpc1 hFF2 _ hS).2.2.1|exact (hpc1 hFF2 _ hS).2.2.2.1|exact (hpc1 hFF2 _ hS).2.2.2.2.1|exact (hpc1 hFF2 _ hS).2.2.2.2.2|exact hS.cell0 Ye):A:=k
theorem YB (k:A:=by first|assumption|exact (hcc _ hS).1|exact (hcc _ hS).2.1|exact (hcc _ hS).2.2.1|exact (hcc _ hS).2.2.2|exact (hcd _ hS).1|exact (hcd _ hS).2.1|exact (hcd _ hS).2.2.1|exact (hcd _ hS).2.2.2|exact hS.cell0 Yo):A:=k
theorem YC (k:A:=by first|assumption|exact (hcA _ hS).1|exact (hcA _ hS).2.1|exact (hcA _ hS).2.2.1|exact (hcA _ hS).2.2.2|exact (hcB _ hS).1|exact (hcB _ hS).2.1|exact (hcB _ hS).2.2.1|exact (hcB _ hS).2.2.2|exact hS.cell0 Yo):A:=k
theorem YD (k:A:=by first|assumption|exact (hcell _ hS).1|exact (hcell _ hS).2.1|exact (hcell _ hS).2.2|exact hS.cell0 Yo):A:=k
theorem YE (k:A:=by first|assumption|exact (hcc _ hS).1|exact (hcc _ hS).2.1|exact (hcc _ hS).2.2.1|exact (hcc _ hS).2.2.2.1|exact (hcc _ hS).2.2.2.2.1|exact (hcc _ hS).2.2.2.2.2|exact hS.cell0 Yo):A:=k
theorem YF (k:A:=by first|assumption|exact (hcl _ hS (by simp)).1|exact (hcl _ hS (by simp)).2.1|exact (hcl _ hS (by simp)).2.2.1|exact (hcl _ hS (by simp)).2.2.2|exact hS.cell0 Yo):A:=k
theorem YG (k:A:=by omega):A:=k
theorem YH (k:A:=by rw [TA.len_app];simp only [TA.len];omega):A:=k
theorem YI (k:A:=by first|assumption|exact (hpc _ hS).1|exact (hpc _ hS).2.1|exact (hpc _ hS).2.2.1|exact (hpc _ hS).2.2.2.1|exact (hpc _ hS).2.2.2.2.1|exact (hpc _ hS).2.2.2.2.2|exact hS.cell0 Yo|exact lv_next hS|exact lv_list hS):A:=k
theorem YJ (k:A:=by first|assumption|exact (hcell _ hS).1|exact (hcell _ hS).2.1|exact (hcell _ hS).2.2|exact (hll _ hS (by simp)).1|exact (hll _ hS (by simp)).2.1|exact (hll _ hS (by simp)).2.2|exact hS.cell0 Yo):A:=k
theorem YK (k:A:=by first|assumption|exact (hcc _ hS).1|exact (hcc _ hS).2.1|exact (hcc _ hS).2.2|exact hS.cell0 Yo):A:=k
theorem YL (k:A:=by first|assumption|exact (hcc _ hS).1|exact (hcc _ hS).2.1|exact (hcc _ hS).2.2.1|exact (hcc _ hS).2.2.2|exact hS.cell0 Yo):A:=k
theorem YM (k:A:=by first|assumption|exact (hcell _ hS).1|exact (hcell _ hS).2.1|exact (hcell _ hS).2.2|exact (hll _ hS Yd).1|exact (hll _ hS Yd).2.1|exact (hll _ hS Yd).2.2|exact hS.cell0 Ye):A:=k
theorem YN (k:A:=by kernel_rfl):A:=k
theorem YO (k:A:=by first|assumption|exact (hpc hF0 _ hS).1|exact (hpc hF0 _ hS).2.1|exact (hpc hF0 _ hS).2.2.1|exact (hpc hF0 _ hS).2.2.2.1|exact (hpc hF0 _ hS).2.2.2.2.1|exact (hpc hF0 _ hS).2.2.2.2.2|exact (hcC _ hS).1|exact (hcC _ hS).2.1|exact (hcC _ hS).2.2.1|exact (hcC _ hS).2.2.2|exact hS.cell0 Yo|exact lv_next hS|exact lv_list hS):A:=k
theorem YP (k:A:=by rw [←R.out,qB];simp;omega):A:=k
theorem YQ (k:A:=by first|assumption|exact (hcx _ hS).1|exact (hcx _ hS).2.1|exact (hcx _ hS).2.2|exact (hcy _ hS).1|exact (hcy _ hS).2.1|exact (hcy _ hS).2.2|exact hS.cell0 Yo):A:=k
theorem YR (k:A:=by rw [hg];decide):A:=k
theorem YS (k:A:=by first|assumption|exact (hll _ hS Yp).1|exact (hll _ hS Yp).2.1|exact (hll _ hS Yp).2.2|exact hS.cell0 Yo|exact lv_next hS|exact lv_list hS):A:=k
theorem YT (k:A:=by simp only;omega):A:=k
theorem YU (k:A:=by first|assumption|exact (hcc _ hS).1|exact (hcc _ hS).2.1|exact (hcc _ hS).2.2|exact hcb _ hS|exact hcs _ hS|exact hS.cell0 Yo):A:=k
theorem YV (k:A:=by first|assumption|exact (hpc1 hFF2 _ hS).1|exact (hpc1 hFF2 _ hS).2.1|exact (hpc1 hFF2 _ hS).2.2.1|exact (hpc1 hFF2 _ hS).2.2.2.1|exact (hpc1 hFF2 _ hS).2.2.2.2.1|exact (hpc1 hFF2 _ hS).2.2.2.2.2|exact hS.cell0 Yo|exact lv_next hS|exact lv_list hS):A:=k
theorem YW (k:A:=by first|assumption|exact (hcell _ hS).1|exact (hcell _ hS).2.1|exact (hcell _ hS).2.2|exact hll _ hS Yd|exact hS.cell0 Ye):A:=k
theorem YX (k:A:=by first|assumption|exact (hcell _ hS).1|exact (hcell _ hS).2.1|exact (hcell _ hS).2.2|exact (hll _ hS (by simp)).1|exact (hll _ hS (by simp)).2.1|exact (hll _ hS (by simp)).2.2|exact hS.cell0 Yo|exact lv_next hS|exact lv_list hS):A:=k
theorem YY (k:A:=by simpa using h):A:=k
theorem YZ (k:A:=by first|assumption|exact hwl _ hS|exact (hcc _ hS).1|exact (hcc _ hS).2.1|exact (hcc _ hS).2.2|exact hS.cell0 Yo):A:=k
theorem Y0 (k:A:=by first|assumption|exact (hcc _ hS).1|exact (hcc _ hS).2.1|exact (hcc _ hS).2.2|exact hcb _ hS|exact hS.cell0 Ye):A:=k
theorem Y1 (k:A:=by simp [Ts.length]):A:=k
theorem Y2 (k:A:=by first|assumption|exact (hcc _ hS).1|exact (hcc _ hS).2.1|exact (hcc _ hS).2.2.1|exact (hcc _ hS).2.2.2.1|exact (hcc _ hS).2.2.2.2.1|exact (hcc _ hS).2.2.2.2.2|exact hS.cell0 Yo|exact lv_next hS|exact lv_list hS):A:=k
theorem Y3 (k:A:=by first|assumption|exact hS.cell0 Yo|exact lv_next hS|exact lv_list hS):A:=k
theorem Y4 (k:A:=by first|assumption|exact (hcx _ hS).1|exact (hcx _ hS).2.1|exact (hcx _ hS).2.2|exact (hcy _ hS).1|exact (hcy _ hS).2.1|exact (hcy _ hS).2.2|exact hS.cell0 Yo|exact lv_next hS|exact lv_list hS):A:=k
theorem Y5 (k:A:=by first|assumption|exact hS.cell0 Ye):A:=k
theorem Y6 (k:A:=by cases h):A:=k
theorem Y8 (k:A:=by first|assumption|exact (hcell _ hS).1|exact (hcell _ hS).2.1|exact (hcell _ hS).2.2|exact hS.cell0 Yo|exact lv_next hS|exact lv_list hS):A:=k
theorem Y9 (k:A:=by rw [hDR];simp):A:=k
theorem Yaa (k:A:=by first|assumption|exact (hcl _ hS Yd).1|exact (hcl _ hS Yd).2.1|exact (hcl _ hS Yd).2.2.1|exact (hcl _ hS Yd).2.2.2|exact hS.cell0 Ye):A:=k
theorem Yab (k:A:=by first|assumption|exact (hcc _ hS).1|exact (hcc _ hS).2.1|exact (hcc _ hS).2.2|exact hS.cell0 Yo|exact lv_next hS|exact lv_list hS):A:=k
theorem Yac (k:A:=by rw [k5];decide):A:=k
theorem Yad (k:A:=by cases hh):A:=k
theorem Yae (k:A:=by show¬((0:Int)≠0);decide):A:=k
theorem Yaf (k:A:=by first|assumption|exact (hll _ hS Yp).1|exact (hll _ hS Yp).2.1|exact (hll _ hS Yp).2.2|exact hS.cell0 Yo):A:=k
theorem Yag (k:A:=by simp [TA.len]):A:=k
theorem Yah (k:A:=by show Value.int .i64 ((Mk.length:Int)+1)=_;rw [show (Mk.length:Int)+1=((Mk.length+1:Nat):Int) by omega]):A:=k
theorem Yai (k:A:=by first|assumption|exact (hcell _ hS).1|exact (hcell _ hS).2.1|exact (hcell _ hS).2.2|exact hS.cell0 Ye):A:=k
theorem Yaj (k:A:=by rw [hen] at hh;cases hh):A:=k
theorem Yak (k:A:=by first|assumption|exact hct _ hS|exact hcm _ hS|exact hS.cell0 Yo|exact lv_next hS|exact lv_list hS):A:=k
theorem Yal (k:A:=by rw [←hm] at hx;exact (List.mem_filter.1 hx).1):A:=k
theorem Yam (k:A:=by first|assumption|exact hk _ hS|exact hg _ hS|exact hS.cell0 Yo|exact lv_next hS|exact lv_list hS):A:=k
theorem Yan (k:A:=by first|assumption|omega):A:=k
theorem Yao (k:A:=by unfold Qt at he;omega):A:=k
theorem Yap (k:A:=by simp [Value.oneCell']):A:=k
theorem Yaq (k:A:=by rw [u2];exact hw):A:=k
theorem Yar (k:A:=by rw [h6];omega):A:=k
theorem Yas (k:A:=by first|assumption|exact hct _ hS|exact hS.cell0 Yo|exact lv_next hS|exact lv_list hS):A:=k
theorem Yat (k:A:=by rw [k3];decide):A:=k
theorem Yau (k:A:=by rw [h5];exact hrow):A:=k
theorem Yav (k:A:=by rw [TA.len_ts];exact hql):A:=k
theorem Yaw (k:A:=by rcases hkk with hk|hk<;>rcases la with la|la<;>rcases lb with lb|lb<;>omega):A:=k
theorem Yax (k:A:=by rw [u1];exact hok):A:=k
theorem Yay (k:A:=by show¬ro.2≤400;omega):A:=k
theorem Yaz (k:A:=by rw [hc.length];exact h):A:=k
theorem YaA (k:A:=by rw [←hzz1];exact nz):A:=k
theorem YaB (k:A:=by show¬400<wk+1;omega):A:=k
theorem YaC (k:A:=by first|assumption|exact hct _ hS|exact hcm _ hS|exact hS.cell0 Ye):A:=k
theorem YaD (k:A:=by simpa using hl):A:=k
end Go.Proofs.YthliapbflkfdiacGreatDoor
