/- Steps of the proof. -/
import Derived.ProofKit
import Derived.OrdersHeld
import Derived.Room.Entries
import Derived.Maps.AppendAt
import Derived.Shelf.Strings.SlTrimAscii
import Derived.StillTailTactics
import Derived.Deep.Upon
import Derived.Lib.LazyBuf
import Derived.BigQuiet
import Derived.Shelf.Strconv.Itoa3
import Derived.Shelf.Strconv.ErrVarAll
import Derived.Lib.ItoaLen
import Derived.Maps.OwnOps
import Derived.Deep.DeepCutAuto
import Derived.Shelf.Strings.OnBuilder
import Derived.Lib.SliceRun
import Derived.Deep.Fields
import Derived.OpenShut
import Derived.Deep.DeepHandedRow
import Derived.LaidSub
import Derived.Stop.LaidErr
namespace Go.Proofs.YthliapbflkfdiacGreatDoor
set_option linter.defProp false
open Go.RowKit
abbrev T0:=List (Nat×Obj)
abbrev T4:=Option Addr
abbrev T6:=List Nat
abbrev T7:=List Int
abbrev T8:=List Bool
abbrev TB:=Array Oper
abbrev TC:=List Oper
abbrev TD:=Option Nat
abbrev TE:=Array Edge
abbrev TG:=World
abbrev TH:=Value
abbrev TI:=List UInt8
abbrev TJ:=ByteArray
abbrev T3:=List (TG->Prop)
abbrev T5:=List TH
abbrev T9:=Array TH
def XA:=@if_neg
def XB:=@if_pos
def XE:=@Calls.mono
def XF:=@Nat.le_refl
def XG:=@List.length_append
def XH:=@Lib.hid
def XI:=@Bool.and_eq_true
def XJ:=@List.length_cons
def XK:=@List.perm_append_comm_assoc
def XM:=@congrArg
def XN:=@Sem.run_bind'
def XO:=@decide_eq_true_eq
def XP:=@List.length_nil
def XQ:=@Nat.zero_add
def XR:=@Below.refl
def XT:=@if_false
def XU:=@Option.some.injEq
def XV:=@List.mem_cons
def XW:=@Result.andThen_ok
def XX:=@List.getElem?_eq_none
def XY:=@Nat.lt_or_ge
def XZ:=@List.mem_cons_of_mem
def X0:=@Int.toNat_natCast
def X1:=@decide_eq_true
def X3:=@List.mem_map
def X4:=@decide_eq_false
def X5:=@if_true
def X6:=@Bool.false_eq_true
def X7:=@Option.map_some
def X8:=@List.mem_cons_self
def X9:=@Nat.le_trans
def VB:=@List.append_assoc
def VC:=@run_underlying
def VD:=@List.map_append
def VE:=@List.map_cons
def VF:=@List.append_nil
def VG:=@List.mem_append
def VI:=@List.cons_append
def VJ:=@List.mem_singleton
def VK:=@List.all_eq_true
def VL:=@List.eq_nil_of_length_eq_zero
def VM:=@Nat.add_mul
def VN:=@List.getElem?_eq_getElem
def VO:=@List.getElem?_append_left
def VP:=@List.perm_middle
def VQ:=@List.length_map
def VR:=@List.take_append_drop
def VT:=@List.pairwise_cons
def VU:=@Option.bind_some
def VV:=@List.length_take
def VW:=@List.getElem?_map
def VX:=@and_true
def VY:=@List.map_map
def VZ:=@List.map_toArray
def V0:=@List.length_drop
def V5:=@not_true_eq_false
def V7:=@Nat.mul_le_mul_right
def V8:=@ByteArray.toList_eq
def V9:=@Option.some.inj
def JA:=@List.map_nil
def JB:=@List.getElem?_take
def JC:=@List.take_succ_cons
def JD:=@List.mem_reverse
def JE:=@Bool.and_assoc
def JF:=@Below.heap_alloc
def JG:=@of_decide_eq_false
def JH:=@Bool.true_and
def JI:=@List.getElem?_set
def JJ:=@List.mem_of_mem_drop
def JK:=@List.mem_filter
def JL:=@Nat.min_eq_left
def JM:=@Nat.le_of_lt
def JN:=@Nat.mul_one
def JO:=@List.mem_append_left
def JP:=@World.cell?_of_block
def JQ:=@List.all_append
def JR:=@laidMet.tail
def JS:=@Ne.symm
def JT:=@Below.heap_setCell
def JU:=@Nat.add_comm
def JV:=@Value.slice.injEq
def JW:=@Nat.eq_zero_or_pos
def JX:=@Bool.eq_iff_iff
def JY:=@Bool.and_false
def JZ:=@Lib.decDigits_one
def J0:=@Bool.or_self
def J1:=@List.ext_getElem?
def J2:=@Int.tmod_eq_emod_of_nonneg
def J3:=@List.length_filter_le
def J4:=@Array.getElem?_modify
def J5:=@Option.map_none
def J6:=@Option.isSome_none
def J7:=@Prod.mk.injEq
def J8:=@Nat.zero_le
def J9:=@List.sum_cons
def WA:=@Bool.and_true
def WB:=@List.reverse_append
def WC:=@cond_false
def WD:=@cond_true
def WE:=@Nat.add_assoc
def WF:=@Nat.le_add_right
def WG:=@true_and
def WH:=@Nat.le_of_succ_le
def WI:=@decide_eq_false_iff_not
def WJ:=@List.length_reverse
def WK:=@Nat.blt_eq
def WL:=@List.length_set
def WM:=@of_decide_eq_true
def WN:=@Nat.lt_succ_self
def WO:=@dif_neg
def WP:=@UInt8.ofNat_toNat
def WQ:=@Bool.or_comm
def WR:=@Option.map_map
def WS:=@Int.le_total
def WT:=@List.Perm.append_left
def WU:=@List.reverse_reverse
def WV:=@List.filter_append
def WW:=@List.mem_append_right
def WX:=@List.nil_append
def WY:=@List.size_toArray
def WZ:=@Nat.eq_of_beq_eq_true
def W2:=@Steps.one
def W3:=@Nat.lt_of_lt_of_le
def W4:=@Array.getElem?_eq_none
def W5:=@List.getElem?_toArray
def W6:=@List.drop_append
def W7:=@run_firstCells_some
def W8:=@List.getElem?_eq_some_iff
def W9:=@Array.getElem?_setIfInBounds_ne
def S2:=@Nat.lt_irrefl
def TS:=@info_parts
def UC:=@List.getElem?_append_right
def UG:=@List.drop_succ_cons
def Xae:=@List.all_cons
def SV:=@Int.tdiv_eq_ediv_of_nonneg
def ZA:=@Array.getD_eq_getD_getElem?
def Xah:=@wpList_plain
def Xai:=@run_loadCells_list
def ZZ:=@wpOp_mono
def Xak:=@Array.getElem?_eq_some_iff
def Xal:=@Bool.or_eq_true
def UW:=@List.getElem?_drop
def Z6:=@List.take_length
def ZP:=@Src.ofSlice
def Xap:=@Go.Room.nextslicecap_le'
def Xaq:=@Option.isSome_iff_exists
def U0:=@List.take_of_length_le
def ZD:=@Array.length_toList
def Xat:=@Bool.false_and
def Xau:=@Bool.true_or
def UY:=@Option.getD_some
def Xaw:=@Bool.or_true
def ZH:=@MapKept.run_getObj_map
def Xay:=@Addr.mk.injEq
def Xaz:=@Classical.byContradiction
def U9:=@List.map_reverse
def XaB:=@Bool.or_eq_false_iff
def XaC:=@Nat.add_zero
def XaD:=@getD_replicate_false
def XaE:=@List.drop_zero
def XaF:=@run_append_grow_src
def XaG:=@run_append_room_src
def XaH:=@List.take_take
def XaI:=@World.ownsRow_nil
def XaJ:=@MapKept.run_checkKey
def XaK:=@MapKept.run_findKey
def XaL:=@MapKept.heap_set
def XaM:=@Int.natCast_mul
def XaN:=@Int.toNat_of_nonneg
def XaO:=@Lib.itoa_length_le
def XaP:=@Lib.itoa_nonneg
def XaQ:=@Int.max_eq_right
def XaR:=@Int.max_eq_left
def XaS:=@Decidable.not_not
def XaT:=@List.set_append_left
def XaU:=@Bool.not_eq_true'
def XaV:=@List.count_le_length
def XaW:=@List.mem_range
def XaX:=@List.mem_of_getElem?
def XaY:=@List.range_succ
def XaZ:=@List.setIfInBounds_toArray
def Xa0:=@Nat.le_of_ble_eq_true
def Xa1:=@List.getElem?_cons_zero
def Xa2:=@Array.getElem?_setIfInBounds_self_of_lt
def Xa3:=@List.dropWhile_cons
def Xa4:=@beq_eq_false_iff_ne
def Xa5:=@List.eq_nil_or_concat
def Xa6:=@Option.getD_none
def Xa7:=@Array.getElem?_toList
def Xa8:=@Option.isSome_some
def Xa9:=@List.nodup_cons
def Xba:=@List.drop_drop
def Xbb:=@List.filter_map
def Xbc:=@List.getElem?_replicate
def Xbd:=@List.getElem?_range
def Xbe:=@List.drop_left
def Xbf:=@List.zip_cons_cons
def Xbg:=@Int.lt_of_lt_of_le
def Xbh:=@Int.min_eq_left
def Xbi:=@Int.min_eq_right
def Xbj:=@List.drop_length
def Xbk:=@List.take_left
def Xbl:=@List.filter_congr
def Xbm:=@List.drop_left'
def Xbn:=@List.getElem?_set_self
def Xbo:=@List.drop_eq_getElem_cons
def Xbp:=@List.take_succ_eq_append_getElem
def Xbq:=@Lib.run_unsafeString_row
def Xbr:=@List.dropWhile_cons_of_pos
def Xbs:=@List.dropWhile_cons_of_neg
def Xbt:=@World.cell?_setCells_out
def Xbu:=@Array.getElem?_append_left
def Xbv:=@List.getD_eq_getElem?_getD
def Xbw:=@List.take_append_of_le_length
structure Zh(B:Prop):Prop where
 o:B
structure ZK(G A:Prop):Prop where
 o:A->G
variable{A B G:Prop}
theorem Zq:ZK A A:=⟨id⟩
theorem ZK.s(x:ZK G A)(k:Zh B->A):ZK G B:=⟨fun h=>x.1 (k ⟨h⟩)⟩
abbrev ZJ(A B:Prop):=Zh B->A
def Ya(k:A:=by omega):=k
def Yb(k:A:=by conv=>lhs;whnf):=k
def Yc(k:A:=by kernel_rfl):=k
def Yd(k:A:=by simp):=k
def Ye(k:A:=by assumption):=k
def Yf(k:A:=by decide):=k
def Yg(k:A:=by simp;omega):=k
def Yh(k:A:=by repeat constructor):=k
def Yi(k:A:=by rfl):=k
def Yj(k:A:=by simp only[Ts.nodes];omega):=k
def Yk(k:A:=by simp only[maxLen];omega):=k
def Yl(k:A:=by simp only[XG,XJ,XP];omega):=k
def Ym(k:A:=by first|exact .head|exact .tail .head|exact .tail (.tail .head)|exact .tail (.tail (.tail .head))|exact .tail (.tail (.tail (.tail .head)))|exact .tail (.tail (.tail (.tail (.tail .head))))):=k
def Yo(k:A:=by first|assumption|exact(oY oU _ hS).1|exact(oY oU _ hS).2.1|exact(oY oU _ hS).2.2.1|exact(oY oU _ hS).2.2.2.1|exact(oY oU _ hS).2.2.2.2.1|exact(oY oU _ hS).2.2.2.2.2|exact(oY oU _ hS.unlearn).1|exact(oY oU _ hS.unlearn).2.1|exact(oY oU _ hS.unlearn).2.2.1|exact(oY oU _ hS.unlearn).2.2.2.1|exact(oY oU _ hS.unlearn).2.2.2.2.1|exact(oY oU _ hS.unlearn).2.2.2.2.2|exact hS.cell0 Ye):=k
def Yr(k:A:=by first|assumption|exact(qN _ hS).1|exact(qN _ hS).2.1|exact(qN _ hS).2.2.1|exact(qN _ hS).2.2.2.1|exact(qN _ hS).2.2.2.2.1|exact(qN _ hS).2.2.2.2.2|exact hS.cell0 Ye):=k
def Yt(k:A:=by first|assumption|exact(rD _ hS Yh).1|exact(rD _ hS Yh).2.1|exact(rD _ hS Yh).2.2|exact hS.cell0 Ye):=k
def Yu(k:A:=by first|assumption|exact(oS _ hS).1|exact(oS _ hS).2.1|exact(oS _ hS).2.2.1|exact(oS _ hS).2.2.2|exact hS.cell0 Ye):=k
def Yv(k:A:=by intro p hp;obtain rfl:=VJ.1 hp;exact hm):=k
def Yw(k:A:=by first|assumption|exact hS.cell0 Ye):=k
def Yx(k:A:=by first|assumption|exact(oS _ hS).1|exact(oS _ hS).2.1|exact(oS _ hS).2.2|exact hS.cell0 Ye):=k
def Yy(k:A:=by first|assumption|exact(qN sB _ hS).1|exact(qN sB _ hS).2.1|exact(qN sB _ hS).2.2.1|exact(qN sB _ hS).2.2.2.1|exact(qN sB _ hS).2.2.2.2.1|exact(qN sB _ hS).2.2.2.2.2|exact(Bx _ hS).1|exact(Bx _ hS).2.1|exact(Bx _ hS).2.2.1|exact(Bx _ hS).2.2.2|exact hS.cell0 Ye):=k
def YB(k:A:=by first|assumption|exact(oY rT _ hS).1|exact(oY rT _ hS).2.1|exact(oY rT _ hS).2.2.1|exact(oY rT _ hS).2.2.2.1|exact(oY rT _ hS).2.2.2.2.1|exact(oY rT _ hS).2.2.2.2.2|exact hS.cell0 Ye):=k
def YC(k:A:=by first|assumption|exact(oS _ hS).1|exact(oS _ hS).2.1|exact(oS _ hS).2.2.1|exact(oS _ hS).2.2.2|exact(xY _ hS).1|exact(xY _ hS).2.1|exact(xY _ hS).2.2.1|exact(xY _ hS).2.2.2|exact hS.cell0 Ye):=k
def YD(k:A:=by first|assumption|exact(Mv _ hS).1|exact(Mv _ hS).2.1|exact(Mv _ hS).2.2.1|exact(Mv _ hS).2.2.2|exact(Cw _ hS).1|exact(Cw _ hS).2.1|exact(Cw _ hS).2.2.1|exact(Cw _ hS).2.2.2|exact hS.cell0 Ye):=k
def YE(k:A:=by first|assumption|exact(oL _ hS).1|exact(oL _ hS).2.1|exact(oL _ hS).2.2|exact hS.cell0 Ye):=k
def YG(k:A:=by first|assumption|exact(oS _ hS).1|exact(oS _ hS).2.1|exact(oS _ hS).2.2.1|exact(oS _ hS).2.2.2.1|exact(oS _ hS).2.2.2.2.1|exact(oS _ hS).2.2.2.2.2|exact hS.cell0 Ye):=k
def YH(k:A:=by first|assumption|exact(pJ _ hS (by simp)).1|exact(pJ _ hS (by simp)).2.1|exact(pJ _ hS (by simp)).2.2.1|exact(pJ _ hS (by simp)).2.2.2|exact hS.cell0 Ye):=k
def YI(k:A:=by rw[TA.len_app];simp only[TA.len];omega):=k
def YJ(k:A:=by first|assumption|exact(qN _ hS).1|exact(qN _ hS).2.1|exact(qN _ hS).2.2.1|exact(qN _ hS).2.2.2.1|exact(qN _ hS).2.2.2.2.1|exact(qN _ hS).2.2.2.2.2|exact hS.cell0 Ye|exact Qt hS|exact Qu hS):=k
def YK(k:A:=by first|assumption|exact(oL _ hS).1|exact(oL _ hS).2.1|exact(oL _ hS).2.2|exact(rD _ hS (by simp)).1|exact(rD _ hS (by simp)).2.1|exact(rD _ hS (by simp)).2.2|exact hS.cell0 Ye):=k
def YM(k:A:=by simp only;omega):=k
def YO(k:A:=by first|assumption|exact(oL _ hS).1|exact(oL _ hS).2.1|exact(oL _ hS).2.2|exact(rD _ hS Yd).1|exact(rD _ hS Yd).2.1|exact(rD _ hS Yd).2.2|exact hS.cell0 Ye):=k
def YP(k:A:=by rw[<-R.out,qB];simp;omega):=k
def YQ(k:A:=by first|assumption|exact(Ff _ hS).1|exact(Ff _ hS).2.1|exact(Ff _ hS).2.2|exact(Ia _ hS).1|exact(Ia _ hS).2.1|exact(Ia _ hS).2.2|exact hS.cell0 Ye):=k
def YR(k:A:=by first|assumption|exact(qN sB _ hS).1|exact(qN sB _ hS).2.1|exact(qN sB _ hS).2.2.1|exact(qN sB _ hS).2.2.2.1|exact(qN sB _ hS).2.2.2.2.1|exact(qN sB _ hS).2.2.2.2.2|exact(Bx _ hS).1|exact(Bx _ hS).2.1|exact(Bx _ hS).2.2.1|exact(Bx _ hS).2.2.2|exact hS.cell0 Ye|exact Qt hS|exact Qu hS):=k
def YS(k:A:=by simp[Ts.length]):=k
def YT(k:A:=by rw[hg];decide):=k
def YU(k:A:=by first|(conv=>lhs;whnf);done|(show Value.int .i64 _=Value.int .i64 _;congr 1;simp;omega)):=k
def YV(k:A:=by first|assumption|exact(rD _ hS Yh).1|exact(rD _ hS Yh).2.1|exact(rD _ hS Yh).2.2|exact hS.cell0 Ye|exact Qt hS|exact Qu hS):=k
def YW(k:A:=by first|assumption|exact(oS _ hS).1|exact(oS _ hS).2.1|exact(oS _ hS).2.2|exact Ib _ hS|exact AP _ hS|exact hS.cell0 Ye):=k
def YX(k:A:=by first|assumption|exact(oL _ hS).1|exact(oL _ hS).2.1|exact(oL _ hS).2.2|exact rD _ hS Yd|exact hS.cell0 Ye):=k
def YY(k:A:=by simpa using h):=k
def YZ(k:A:=by first|assumption|exact(oY rT _ hS).1|exact(oY rT _ hS).2.1|exact(oY rT _ hS).2.2.1|exact(oY rT _ hS).2.2.2.1|exact(oY rT _ hS).2.2.2.2.1|exact(oY rT _ hS).2.2.2.2.2|exact hS.cell0 Ye|exact Qt hS|exact Qu hS):=k
def Y0(k:A:=by first|omega|(simp;done)|(simp;omega)):=k
def Y1(k:A:=by first|assumption|exact sL _ hS|exact(oS _ hS).1|exact(oS _ hS).2.1|exact(oS _ hS).2.2|exact hS.cell0 Ye):=k
def Y2(k:A:=by first|assumption|exact(oS _ hS).1|exact(oS _ hS).2.1|exact(oS _ hS).2.2|exact Ib _ hS|exact hS.cell0 Ye):=k
def Y3(k:A:=by first|assumption|exact(oL _ hS).1|exact(oL _ hS).2.1|exact(oL _ hS).2.2|exact(rD _ hS (by simp)).1|exact(rD _ hS (by simp)).2.1|exact(rD _ hS (by simp)).2.2|exact hS.cell0 Ye|exact Qt hS|exact Qu hS):=k
def Y4(k:A:=by first|assumption|exact(oS _ hS).1|exact(oS _ hS).2.1|exact(oS _ hS).2.2.1|exact(oS _ hS).2.2.2.1|exact(oS _ hS).2.2.2.2.1|exact(oS _ hS).2.2.2.2.2|exact hS.cell0 Ye|exact Qt hS|exact Qu hS):=k
def Y5(k:A:=by first|assumption|exact(Ff _ hS).1|exact(Ff _ hS).2.1|exact(Ff _ hS).2.2|exact(Ia _ hS).1|exact(Ia _ hS).2.1|exact(Ia _ hS).2.2|exact hS.cell0 Ye|exact Qt hS|exact Qu hS):=k
def Y6(k:A:=by first|assumption|exact hS.cell0 Ye|exact Qt hS|exact Qu hS):=k
def Y7(k:A:=by cases h):=k
def Y8(k:A:=by rw[rG];simp):=k
def Y9(k:A:=by first|assumption|exact(pJ _ hS Yd).1|exact(pJ _ hS Yd).2.1|exact(pJ _ hS Yd).2.2.1|exact(pJ _ hS Yd).2.2.2|exact hS.cell0 Ye):=k
def MA(k:A:=by simp[NV]):=k
def OO(k:A:=by rw[k5];decide):=k
def Yac(k:A:=by first|assumption|exact(oL _ hS).1|exact(oL _ hS).2.1|exact(oL _ hS).2.2|exact hS.cell0 Ye|exact Qt hS|exact Qu hS):=k
def Yad(k:A:=by first|assumption|exact(oS _ hS).1|exact(oS _ hS).2.1|exact(oS _ hS).2.2|exact hS.cell0 Ye|exact Qt hS|exact Qu hS):=k
def OI(k:A:=by cases hh):=k
def Yaf(k:A:=by show¬((0:Int)≠0);decide):=k
def RC(k:A:=by rw[h6];omega):=k
def Yai(k:A:=by show Value.int .i64 ((Mk.length:Int)+1)=_;rw[show(Mk.length:Int)+1=((Mk.length+1:Nat):Int) by omega]):=k
def Yaj(k:A:=by show _∈DataW.weightsEach prog (_::_::_::_::_) [_,_,_,_];simp[DataW.weightsEach,DataW.weights]):=k
def Yal(k:A:=by rw[vK]at hh;cases hh):=k
def TP(k:A:=by rw[h5];exact oE):=k
def Yan(k:A:=by rw[<-hm]at hx;exact(JK.1 hx).1):=k
def Z2(k:A:=by unfold QB at he;omega):=k
def R3(k:A:=by simp[TA.len]):=k
def UA(k:A:=by rw[u2];exact hw):=k
def Yar(k:A:=by first|assumption|exact tT _ hS|exact rH _ hS|exact hS.cell0 Ye|exact Qt hS|exact Qu hS):=k
def NH(k:A:=by cases hx):=k
def Yat(k:A:=by first|assumption|exact hk _ hS|exact hg _ hS|exact hS.cell0 Ye|exact Qt hS|exact Qu hS):=k
def RP(k:A:=by rw[ht];simp):=k
def SI(k:A:=by rw[hD];simp):=k
def Yaw(k:A:=by rw[pJ,pN];dsimp only;intro h;rcases h with h|h;cases h;rw[oK]at h;cases h):=k
def S4(k:A:=by rw[k3];decide):=k
def Yay(k:A:=by rw[TA.len_ts];exact Oa):=k
def Yaz(k:A:=by rcases Mw with hk|hk<;>rcases la with la|la<;>rcases lb with lb|lb<;>omega):=k
def YaA(k:A:=by rw[u1];exact oK):=k
def YaB(k:A:=by first|assumption|exact tT _ hS|exact hS.cell0 Ye|exact Qt hS|exact Qu hS):=k
def YaC(k:A:=by show¬ro.2<=400;omega):=k
def YaD(k:A:=by rw[hc.length];exact h):=k
def YaE(k:A:=by first|assumption|omega):=k
def YaF(k:A:=by rw[<-vF];exact nz):=k
def YaG(k:A:=by show¬400<wk+1;omega):=k
def YaH(k:A:=by first|assumption|exact tT _ hS|exact rH _ hS|exact hS.cell0 Ye):=k
def U5(k:A:=by simpa using hl):=k
def YaJ(k:A:=by simp at h2⊢;omega):=k
def YaK(k:A:=by rw[<-hD];exact hv):=k
def YaL(k:A:=by rw[<-hD];exact hr):=k
def Yn(k:A:=by exact⟨rfl,hS.ext.below⟩):=k
def Yp(k:A:=by simp only[execOp,hx,hy,eqGuard,binOp,Op.intCmp,bind,pure,Sem.bind,ne_eq,V5,XT];rfl):=k
def Yq(k:A:=by apply Zq.e6.1;simp only[Ts.good,XI,VX];unfold CL;rw[XA Yf,XA Yf,XB rfl];simp only[XI,XO];exact⟨⟨⟨by omega,by omega⟩,NX []⟩,rfl⟩):=k
def Ys(k:A:=by subst hl;have HT:=XH ht;go_wp2_with fail;go_quiet (fail);go_wp2_with fail;go_ret;exact⟨by rw[<-R.out,HT.out];rfl,hB.trans (Qbt _ _ _)⟩):=k
def Yz(k:A:=by have hq:Hid (rb=false):=XH YP;go_enter func29,ntmps29;go_wp2_with fail;go_ret;exact⟨by rw[hq.out];rfl,XR _ _⟩):=k
def YA(k:A:=by clear hS;intro pP hS;apply Zq.cT.d2.d.1;clear hS;intro pM hS;apply Zq.b.dY.1;exact⟨.slice none 0 0,_,_,VH,rfl,hL,hV,hS.drop.learn fun w _=>oV w⟩):=k
def YF(k:A:=by exact⟨A,c,B,d,F,rfl,fun _ h=>h,hH,hS.drop.drop⟩):=k
def YL(k:A:=by exact⟨none,0,[],F,rfl,rfl,fun _ h=>h,fun w _=>oV w,hS⟩):=k
def YN(k:A:=by rintro _ w4 ⟨rfl,rfl⟩;apply Zq.c0.1;rw[hdg];apply Zq.P.l.c4.l.bB.U.q.bB.U.cN.aF.hP.1;rintro _ w5 ⟨rfl,rfl⟩;apply Zq.a.1;generalize Lib.indexByte EP c=si at*;apply Zq.r.bT.h.bH.1;clear hS;intro b1 oQ hS;apply Zq.eC.1;clear hS;intro v5 O5 w5 pK hS;obtain⟨A5,c5,rfl⟩:=pK.form;apply Zq.c.hL.jB.1;rw[hW,QeQ r hw wA,VD,XG];exact pK):=k
def Yag(k:A:=by have p0:=wR.cell 0;have p1:=wR.cell 1;have p2:=wR.cell 2;have p3:=wR.cell 3;simp at p0 p1 p2 p3;go_wp2_with fail;refine(Qgm c.k c.n c.s A c.hd.length d _).mono ?_;rintro e _ ⟨rfl,oZ⟩;generalize Ar:Q1 c.s.toList c.hd.length=bb;have Pf:=XH Ar;clear Ar;go_wp2_with fail;go_ret;apply Zq.hR.1;rw[<-R.out,cB,HQ.out,sU.out,Pf.out,JH];rfl):=k
def RN(k:A:=by rw[show((D.length:Nat):Int).toNat=D.length by omega];exact this):=k
def YaM(k:A:=by simp only[execOp,resolve,VZ,VE,JA,hx,hy,bind,pure,Sem.bind,invoke,builtin];rw[XN,hr];rfl):=k
def FI(k:A:=by exact⟨rfl,rfl⟩):=k
def YaO(k:A:=by rintro _ w3 ⟨rfl,oZ⟩;apply Zq.a.1;replace hS:=hS.grow oZ;apply Zq.b2.i.O.a6.aS.q.dL.1;clear hS;intro pP hS;apply Zq.cZ.bL.y.e2.bL.J.1;clear hS;intro pM hS;apply Zq.b.h.d9.d.1;clear hS;intro sR hS;apply Zq.b.dY.1;exact⟨.slice none 0 0,_,_,VH,rfl,Gh,hV,hS.drop.learn fun w _=>oV w⟩):=k
def SY(k:A:=by rintro _ w8 ⟨rfl,qL⟩;apply Zq.aJ.dP.1;exact⟨F,rfl,sB,qL⟩):=k
def YaQ(k:A:=by exact⟨none,0,rfl,QG.nil_ _ _ _,hS.ext.below⟩):=k
def YaR(k:A:=by rw[e];exact⟨_,rfl,((St.dropL (L:=O2) (St.dropL (L:=uY) hS.drop.drop)).forget (F':=F) fun ψ hψ=>by simp[hψ]).learn fun w _=>sE w⟩):=k
def ZN(k:A:=by subst eD;go_wp2_with fail;go_ret;exact⟨by rw[hq.out,HD.out];rfl,hb⟩):=k
def YaT(k:A:=by apply Zq.f.gP.1;rintro _ w8 ⟨L6,rfl,Dy,oD⟩;apply Zq.a.1;replace hS:=oD;clear oD;replace hS:=St.raise3 hS.swap;apply Zq.bW.q.dL.1;clear hS;intro Vv hS;apply Zq.cT.cE.d.1;clear hS;intro Vx hS;apply Zq.b.dY.1;exact⟨_,L6,V4,yU,rfl,Dy,Bf,rP _ _ _ hS⟩):=k
def KD(k:A:=by simp only[Ts.nodes];omega):=k
def R1(k:A:=by unfold pB at hp;simp only[XI,XO,VK]at hp;exact hp):=k
def YaW(k:A:=by apply Zq.dV.dH.1;clear hS;intro b1 oQ hS;apply Zq.d.1;clear hS;intro pP hS;apply Zq.K.h.b1.bL.d.1;clear hS;intro pM hS;apply Zq.cZ.Q.K.1;refine LP func153 rfl Yb Yb ?_;exact⟨rfl,_,F',fun φ h=>uE φ (oU φ h),(oK.mono uE).setH yJ,hS.drop⟩):=k
def YaX(k:A:=by rintro _ w6 ⟨rfl,oD⟩;apply Zq.a.1;replace hS:=oD;clear oD;replace hS:=hS.raise1;apply Zq.d9.d.1;clear hS;intro pP hS;apply Zq.b.e4.1;rw[e];exact⟨.slice none 0 0,_,VH,rfl,by rw[(Qdn num s.adv (c::r)).2];exact sQ,hS.drop.learn fun w _=>oV w⟩):=k
def YaY(k:A:=by have e2:=M9 e1 Yd;obtain⟨i1,i2,i3⟩:=qO (a+1) p hr Ya Cc Ya q2 rN;rw[show((base+(a+1):Nat):Int)=((base+a:Nat):Int)+1 by omega]at i1;exact⟨⟨⟨_,_,e2,e1,.inr ⟨by decide,rfl,rfl,rfl,rfl,trivial⟩⟩,i1⟩,step _ _ _ e2 i2,i3⟩):=k
def LD(k:A:=by rw[HT.out,Ts.app_assoc];rfl):=k
def Z5(k:A:=by rw[HT.out,Ts.nodes_app]at this;simp only[Ts.nodes]at this;omega):=k
def Ya1(k:A:=by have h2:=VC (SX hT) w;simp only[execOp,Instr.sliceAt,Instr.slice,hx,hy,X7,J5,bind,pure,Sem.bind];rw[XN,XN,h2];simp only[XW];rw[XN,h2];simp only[XW,Instr.sliceBounds,J6,X6,XT,bind,pure,Sem.bind];rw[XN,XN,R4 rfl h0 h1];rfl):=k
def Ya2(k:A:=by clear hS;intro sR hS;apply Zq.K.fZ.1;exact⟨A,c,B,d,F,rfl,fun _ h=>h,hH,St.dropL (L:=O6) hS.drop.drop.drop.drop⟩):=k
def Ya3(k:A:=by show EI _ _ ((S++pL.lts.reverse).reverse.map LT.tm) _=ro;rw[WB,WU,VD];exact uS):=k
def Ya4(k:A:=by refine XE (tZ _ hS) ?_;rintro _ w9 ⟨E9,Si,k9,F9,rfl,rI,Sj,Sk,oD⟩;apply Zq.a.1;replace hS:=oD;clear oD;apply Zq.k6.a7.dO.dO.dO.dX.dX.dX.eB.b.1;exact oF _ _ _ _ _ ⟨E9,Si,k9,F9,rfl,rfl,rfl,rI,Sj,Sk,hS⟩ Yb Yb Yb Yc):=k
def Ya5(k:A:=by exact⟨_,_,_,_,by rw[show((((L++[p]).length:Nat):Int)-1).toNat=L.length by omega],rfl,rfl,sW.symm,by show wq<=400;omega,by show L.length<=24*wq+1;omega,fun φ h=> .tail _ (hF φ h),Rz,Ry.tail,xQ,hS.drop.drop.drop⟩):=k
def Ya6(k:A:=by rintro e _ ⟨rfl,_,hc⟩;generalize Di:decide (T.nodes+1<=24)=fb;have Xx:=XH Di;clear Di;go_wp2_with fail;go_ret;refine⟨by rw[Xx.out];rfl,hW.trans (hc.below Yg fun k hk _=> ?_)⟩;have e:k=w.heap.size+1:=hk;omega):=k
def Ya7(k:A:=by clear hS;intro pP hS;apply Zq.b.e4.1;rw[e];exact⟨.slice none 0 0,_,VH,rfl,sQ,hS.drop.learn fun w _=>oV w⟩):=k
def Ya8(k:A:=by rw[wT];apply Zq.W.m.aC.bY.E.l1.1;replace hS:=hS.drew;apply Zq.b5.aN.gK.a5.aR.f.jU.1;rintro _ w3 ⟨rfl,oZ⟩;apply Zq.a.1;replace hS:=hS.grow oZ;apply Zq.fK.gK.gK.bK.dK.e5.1;exact⟨by simp,hS.ext.below⟩):=k
def DM(k:A:=by simp only;omega):=k
def Yba(k:A:=by subst eD;go_wp2_with fail;go_ret;exact⟨by rw[hq.out,<-HD.out];rfl,hb⟩):=k
def Ybb(k:A:=by apply Zq.a.1;replace hS:=oD;clear oD;apply Zq.b.e.h3.1;exact⟨rfl,hS⟩):=k
def Ybc(k:A:=by apply Zq.b.1;exact oF _ _ _ ⟨_,A8,c8,A9,c9,F9,rfl,fun φ h=>rI φ (zH φ h),Nx.mono rI,Md,hS⟩ Yb Yc):=k
def Ybd(k:A:=by show(S++pL.lts.reverse).length<=24*(wq+1)+1;rw[XG,WJ,TA.lts_len];omega):=k
def Ybe(k:A:=by rintro _ w1 ⟨rfl,oD⟩;apply Zq.a.1;replace hS:=oD;clear oD;apply Zq.cT.d2.d.1;clear hS;intro pP hS;apply Zq.b.e4.1;exact⟨.slice none 0 0,_,VH,rfl,hV,hS.swap.drop.learn fun w _=>oV w⟩):=k
def Ybf(k:A:=by exact⟨by show(400:Int)-(wk:Nat)-1=400-((wk+1:Nat):Int);omega,rfl⟩):=k
def Ybg(k:A:=by rw[r];clear r h0;go_enter func197,ntmps197;go_wp2_with fail;go_ret;exact⟨rfl,XR _ _⟩):=k
def Ybh(k:A:=by apply Zq.f.gP.1;rintro _ w8 ⟨L6,rfl,Dy,oD⟩;apply Zq.a.1;replace hS:=oD;clear oD;apply Zq.bW.q.dL.1;clear hS;intro pP hS;apply Zq.b.aB.jK.1;exact⟨_,L6,V4,yU,rfl,Dy,Bf,rP _ _ _ hS⟩):=k
def Ybi(k:A:=by have:=hh ⟨c.toNat,c.toNat_lt⟩;simp only[WP]at this;exact this h):=k
def Ybj(k:A:=by rintro e _ ⟨rfl,oZ⟩;generalize hq:(Ts.cons k n s T .nil).good vars=qb;have HQ:=XH hq;clear hq;go_wp2_with fail;go_ret;apply Zq.hR.1;rw[<-R.out,gB,Kb.out,HF.out,HQ.out,WA,JH];rfl):=k
def Ybk(k:A:=by refine⟨D.app (.cons k1 n1 s1 a1 .nil),O5,by rw[Ts.app_assoc];exact hD,by rw[Ts.length_app];simp[Ts.length],?_,(hS.perm (XK O5 [_,_] [])).drop⟩;rw[Ts.length_app,QnX,VD];exact pK):=k
def KS(k:A:=by rw[Ts.length_app];rfl):=k
def Ybm(k:A:=by exact⟨fun h=>Y7,by refine⟨?_,?_,?_⟩<;>simp only<;>decide⟩):=k
def Ybn(k:A:=by exact oF _ _ _ _ ⟨_,A',c',B',d',F9,rfl,rfl,rI,yJ,hS⟩ Yb Yb Yc):=k
def Ybo(k:A:=by have h1:=(vC.left.set_ 0 (.int .i64 ((L:Int)-1))).alloc (.cells #[.int .i64 k,.int .i64 n,.string s,.slice A T.length c] 63);rw[show((L-1:Nat):Int)=(L:Int)-1 by omega];exact h1):=k
def Ybp(k:A:=by unfold QF;have hz:=Qa6 oN (by rw[pJ,pN];exact .inl rfl);dsimp only at hz;rw[XA rZ,hi,hz];rfl):=k
def Ybq(k:A:=by have hx:=JD.1 hx;exact⟨fun w hw=>(wE w hw).lts x hx,yW x hx⟩):=k
def Ybr(k:A:=by apply Zq.w.1;clear hS;intro b1 oQ hS;apply Zq.c.bD.dU.bR.eT.cK.1;clear hS;intro b2 pP hS;apply Zq.d.1;clear hS;intro pM hS;apply Zq.b.bD.aV.l.t.cJ.aV.P.Q.a9.kG.1;exact Yn):=k
def Ybs(k:A:=by rw[r];clear r h0;go_enter func184,ntmps184;go_wp2_with fail;go_ret;exact FI):=k
def Ybt(k:A:=by exact⟨Rs.stop oM Yf hR.out (XF _) (XF _) YM,fun hh=>OI⟩):=k
def Ybu(k:A:=by rintro _ w5 ⟨rfl,hq⟩;apply Zq.aJ.gY.1;exact⟨rfl,hq⟩):=k
def Ybv(k:A:=by obtain rfl:l=[]:=VL rD;clear hF;apply Zq.iD.e.E.i2.1;replace hS:=hS.drew;apply Zq.aU.cM.aN.aU.cM.aN.eH.aR.l3.eW.aR.iO.eW.bK.dK.gW.1;exact⟨rfl,hS.drop⟩):=k
def Ybw(k:A:=by exact⟨_,_,_,XF _,rfl,rfl,by rw[wF];simpa using xS,hS⟩):=k
def Ybx(k:A:=by have hq:Hid (rb=false):=XH (by rw[<-R.out,pB];simp;omega);go_enter func28,ntmps28;go_wp2_with fail;go_ret;exact⟨by rw[hq.out];rfl,XR _ _⟩):=k
def Yby(k:A:=by replace hS:=hS.drew;apply Zq.aU.eA.aN.bK.bK.dK.jI.1;rw[e];exact⟨_,rfl,(St.dropL (L:=O2) (St.dropL (L:=xG) hS.drop)).unlearn.learn fun w _=>sE w⟩):=k
def Ybz(k:A:=by refine XE (Fh _) ?_;rintro _ w1 ⟨rfl,rfl⟩;apply Zq.a.aO.fL.fA.F.1;refine XE (hi2 _) ?_;rintro _ w2 ⟨rfl,rfl⟩;apply Zq.a.iE.c.h7.1;exact FI):=k
def YbA(k:A:=by rintro e w' ⟨rfl,qL⟩;exact⟨F,rfl,fun _ h=>h,qL⟩):=k
def YbB(k:A:=by go_wp2_with fail;go_ret;exact⟨by rw[R.out];rfl,(XR _ _).alloc (XF _) _⟩):=k
def YbC(k:A:=by refine XE (SE s2 1 _ hS) ?_;rintro _ w5 ⟨rfl,oD⟩;apply Zq.a.1;replace hS:=oD;clear oD;apply Zq.b.1;exact hk _ _ (by rw[e3];exact hS) Yc):=k
def YbD(k:A:=by rw[rD]at Of;replace hS:=(St.swap hF.drew).lose (QlO _ g ll);refine Qa (Qei rfl rfl Of) rfl ?_;apply Zq.eW.bK.dK.gW.1;exact⟨rfl,hS.drop⟩):=k
def S5(k:A:=by simp only[Ts.nodes,Ts.length];omega):=k
def OB(k:A:=by simp only[XG,XJ,XP];omega):=k
def YbG(k:A:=by rw[X4 hx];have qU:Hid (¬T.nodes+1<=L):=XH Ya;clear oK;go_wp2_with fail;go_ret;refine⟨?_,fun h=>absurd h qU.out,Cf⟩;rw[X4 qU.out];rfl):=k
def YbH(k:A:=by rw[e];exact⟨_,rfl,((St.dropL (L:=O2) (St.dropL (L:=Rh) hS.drop.drop)).forget (F':=F) fun ψ hψ=>by simp[hψ]).learn fun w _=>sE w⟩):=k
def YbI(k:A:=by exact⟨F4,rfl,Bn,K4,Bo,Bp,O4,Lq,zB,rB,by simp only[DN,he4];exact hS⟩):=k
def YbJ(k:A:=by unfold QS D7 at hg;simp only[XI]at hg;exact hg.1.2):=k
def YbK(k:A:=by have hf:=XH (QoY Fk (show G5 s[k]=false by simp[G5];omega));clear Fk;go_wp2_with fail;go_ret;exact⟨by rw[R.out,hf.out];rfl,rfl⟩):=k
def YbL(k:A:=by refine⟨_,v,ho,.inl ⟨by simp[Region.wanted],fun w' hw=>by rw[SL];exact hr w' hw⟩,fun c a w h=>h.elim,?_⟩;rw[SC hd];exact h):=k
def YbM(k:A:=by go_wp2_with fail;go_ret;refine⟨?_,yK⟩;rw[<-R.out,cB,sU.out,JY];rfl):=k
def UK(k:A:=by exact⟨rfl,[],rfl,rfl,by simp⟩):=k
def YbO(k:A:=by rintro _ w4 ⟨rfl,oD⟩;apply Zq.a.1;replace hS:=oD;clear oD;apply Zq.b.aB.1;refine Qd func40 rfl Yb ?_;exact⟨_,rfl,hS⟩):=k
def SG(k:A:=by exact⟨rfl,d2,F2,pF,qP,hS⟩):=k
def YbQ(k:A:=by go_wp2_with fail;go_ret;refine⟨?_,uP⟩;rw[<-R.out,cB,HQ.out];rfl):=k
def YbR(k:A:=by rw[Qs (h2 _ (.head _) w' Cn),XQ,VO tX];exact hu):=k
def YbS(k:A:=by apply Zq.X.dG.d2.d.1;clear hS;intro pM hS;apply Zq.K.iV.1;exact⟨U8,F,rfl,rfl,fun _ h=>h,fun w _=>Qti w,hS.drop.drop⟩):=k
def YbT(k:A:=by clear hS;intro pM hS;apply Zq.b.j7.1;exact⟨rfl,hS.drop.drop⟩):=k
def YbU(k:A:=by subst Xw;go_enter func132,ntmps132;go_wp2_with fail;go_ret;exact⟨rfl,fun h=>absurd h Ya,AM.of_fresh hW⟩):=k
def YbV(k:A:=by simp only[execOp,hx,hy,eqGuard,binOp];simp only[bind,pure,Bool.not_true,X6,XT,Sem.bind];exact(Sem.bind_assoc' _ _ _)):=k
def YbW(k:A:=by obtain⟨q,hq,e⟩:=X3.1 hk;exact(VT.1 hS.apart).1 q hq e.symm):=k
def YbX(k:A:=by rw[Z8 h1];exact⟨.inr ⟨h.1,h.2.1,h.2.2.1,BQ.loop hk _ _ h.2.2.2⟩,fun e=>by have:=h.1;simp only at e;omega⟩):=k
def YbY(k:A:=by simp only[Ts.good,XI,VX];unfold CL;rw[XB rfl];simp only[XI,XO];exact⟨⟨⟨by omega,by omega⟩,NX []⟩,rfl⟩):=k
def YbZ(k:A:=by apply Zq.w.1;clear hS;intro b1 oQ hS;apply Zq.b9.cU.dR.dE.aE.r.t.L.aK.cP.q.t.L.fE.P.cP.q.t.Y.aK.dD.a9.d7.1;exact Yn):=k
def Yb0(k:A:=by obtain⟨p,hp,e⟩:=X3.1 hm;exact(VT.1 hS.apart).1 p hp e.symm):=k
def Yb1(k:A:=by show P.funcs[fr.fn]?=some fn;rw[wP];exact hf):=k
def Yb2(k:A:=by simp only[execOp,resolve,VZ,VE,JA,hx,bind,pure,Sem.bind,invoke,builtin,Builtin.len_,ht,W5,Xa1];rw[XN,XN,h1];rfl):=k
def Yb3(k:A:=by have h5:St M w0 ((w.heap.size,.cells ((xs++ys)++zl).toArray el)::(O++H')) F _:=uJ;exact St.dropL (L:=O) h5.sink):=k
def Yb4(k:A:=by rintro _ w8 ⟨rfl,Mf⟩;apply Zq.aJ.gL.1;exact⟨rfl,Mf⟩):=k
def Yb5(k:A:=by clear hS;intro pM hS;apply Zq.b.dY.1;exact⟨.slice none 0 0,_,_,VH,rfl,Gh,hV,hS.drop.learn fun w _=>oV w⟩):=k
def Yb6(k:A:=by rintro _ w6 ⟨B3,V3,O4,O5,rfl,Im,wL,oD⟩;apply Zq.a.1;replace hS:=oD;clear oD;apply Zq.b.l4.m7.1;exact Im):=k
def Yb7(k:A:=by obtain⟨x,hx⟩:=a3 (i-1-ar.length) Ya;rw[show p+i=p+1+ar.length+(i-1-ar.length) by omega];exact⟨x,hx⟩):=k
def Yb8(k:A:=by have h1:=Hi.2;have h2:=Ts.length_le zz.ar.ts;rw[TA.len_ts]at h2;have h3:zz.ar.ts.nodes+1<=24:=h1;omega):=k
def SH(k:A:=by exact⟨rfl,hS.drop⟩):=k
def Yca(k:A:=by go_wp2_with fail;go_ret;refine⟨?_,oZ⟩;rw[hq.out,HT.out,Ts.goals_app,Ts.goals,sU.out,Xat,JY];rfl):=k
def Ycb(k:A:=by rw[hxj]at hj;simp only[X7,XU]at hj;subst hj;rw[VO (by have:=W8.1 hxj;simp;exact this.1),VW,hxj];rfl):=k
def Ycc(k:A:=by exact⟨rfl,M.i.ev,fun h=>by cases h⟩):=k
def Ycd(k:A:=by go_enter func84,ntmps84;go_wp2_with fail;go_ret;exact⟨rfl,(XR _ _).alloc (XF _) _⟩):=k
def Yce(k:A:=by exact⟨hB,hS,fun h=>Y7,by simp only;omega,[],rfl⟩):=k
def Ycf(k:A:=by apply Zq.w.1;clear hS;intro b1 oQ hS;apply Zq.b9.dE.aE.r.t.L.fE.P.I.q.t.Y.aK.V.a9.d7.1;exact Yn):=k
def Ycg(k:A:=by apply Zq.iS.bN.y.e3.v.cY.nQ.nN.lK.bL.J.1;clear hS;intro _ hS;apply Zq.b.i9.1;exact⟨rfl,hS⟩):=k
def Ych(k:A:=by rintro _ w6 ⟨F2,rfl,pF,qL⟩;apply Zq.aJ.dP.1;exact⟨F2,rfl,fun φ h=>pF φ (hF φ h),qL⟩):=k
def Yci(k:A:=by exact⟨rfl,B,d,O,oE,hS⟩):=k
def Ycj(k:A:=by unfold QF;have hz:=Qa6 oN (by rw[pJ,pN];exact .inr oK);dsimp only at hz;rw[XA rZ,hi,hz];rfl):=k
def Yck(k:A:=by have:=zF x.ev (by rw[<-hL];exact X3.2 ⟨x,hx,rfl⟩);exact⟨this.1,this.2.1,this.2.2.2⟩):=k
def NY(k:A:=by rw[VD,XG];exact pK):=k
def Ycm(k:A:=by apply Zq.w.1;clear hS;intro b1 oQ hS;apply Zq.b9.dR.dE.aE.l.t.Y.aK.dD.a9.d7.1;exact Yn):=k
def Ycn(k:A:=by exact⟨_,_,O',O2,rfl,by rw[e1,XA Yd,VF];exact sN,by rw[e1,XA Yd];exact hV,hS.drop⟩):=k
def Yco(k:A:=by simp only[cB,qB,XI,XO]at h;exact⟨h.1.1.1.1.1,h.1.1.1.1.2,h.1.1.1.2,h.1.1.2,h.1.2⟩):=k
def Ycp(k:A:=by rw[XB yA];apply Zq.W.m.S.D.aA.dD.b.1;rw[vO];apply Zq.bS.aW.h.K.e8.1;exact⟨rfl,hB⟩):=k
def Ycq(k:A:=by go_wp2_with fail;go_ret;refine⟨?_,oZ⟩;rw[hq.out,HT.out,JQ,Xae,sU.out,Xat,JY];rfl):=k
def Ycr(k:A:=by unfold I0;simp only[Q2,XI];exact⟨Qj9 h1 h2 h3 (by rw[XG,PQ];omega),PZ a2 a1⟩):=k
def Ycs(k:A:=by simp only[XG,V0]at oS uK⊢;omega):=k
def Yct(k:A:=by rw[Qix];exact Cs.app h2 ⟨_,[],rfl,h1,rfl⟩):=k
def NC(k:A:=by have:=JG hi;omega):=k
def Ycv(k:A:=by clear hS;intro pM hS;apply Zq.K.i4.1;exact YF):=k
def Ycw(k:A:=by clear hS;intro pM hS;apply Zq.c.iQ.1;exact YF):=k
def Ycx(k:A:=by clear hS;intro pM hS;apply Zq.c.hN.1;exact YF):=k
def Ycy(k:A:=by clear hS;intro pM hS;apply Zq.K.fZ.1;exact YF):=k
def Ycz(k:A:=by apply Zq.w.1;clear hS;intro b1 oQ hS;apply Zq.b4.r.n.aI.aK.dA.I.a9.jG.1;exact Yn):=k
def YcA(k:A:=by have:=Qrn (I6 a) Ya pR Ya (by rw[hj];omega) h.sink;rw[hj,tM]at this;exact this):=k
def YcB(k:A:=by exact⟨F',rfl,hF,qL⟩):=k
def YcC(k:A:=by exact⟨F',rfl,hF,K',Fw,Fx,O',Cd,xT,pR,hS⟩):=k
def YcD(k:A:=by rw[Ts.goals_app,<-JE,HD.out];rfl):=k
def YcE(k:A:=by rw[<-Qvx,<-yG]at this;intro y hy;exact this (y.t.tm,y.o) (X3.2 ⟨y,hy,rfl⟩)):=k
def YcF(k:A:=by rw[G7,Qs (w:=w.drew) rA,XQ,VO tX];exact hj):=k
def YcG(k:A:=by obtain⟨x,hx⟩:=a2 (i-1) c1;rw[show p+i=p+1+(i-1) by omega];exact⟨x,hx⟩):=k
def YcH(k:A:=by apply Zq.e.bN.aI.dU.bR.aI.aV.l.c.1;refine Qd func221 rfl Yb ?_;exact Yci):=k
def YcI(k:A:=by rw[sW];exact⟨by show(400:Int)-(wq:Nat)-1=400-((wq+1:Nat):Int);omega,rfl⟩):=k
def YcJ(k:A:=by rw[hX];exact⟨Aa,ca,_,rfl,fun φ h=> .tail _ h,AB.head,St.freezeR oE hS⟩):=k
def YcK(k:A:=by rw[XG,XG,oG,sP,tR,<-VM,<-VM];congr 1;omega):=k
def YcL(k:A:=by clear hS;intro pM hS;apply Zq.b.k1.1;exact⟨c,rfl,pV,hc,rH,hS.drop.drop⟩):=k
def YcM(k:A:=by rw[e3,e4]at h4;exact⟨h4.1,h3.put h4.2⟩):=k
def YcN(k:A:=by apply Zq.w.1;clear hS;intro b1 oQ hS;apply Zq.b9.cU.dE.a6.V.c.d7.1;exact Yn):=k
def YcO(k:A:=by exact⟨rfl,B,d,O,oE,by rw[sA];exact hS⟩):=k
def YcP(k:A:=by subst eD;go_wp2_with fail;go_ret;refine⟨?_,fun _=>Pc,hc⟩;rw[X1 hD];rfl):=k
def YcQ(k:A:=by have:=QcD ⟨x0::r0,xO,false⟩ (by rw[pJ,pN]);rw[pJ,pN]at this;exact this):=k
def U4(k:A:=by intro e2;simp at e2;omega):=k
def YcS(k:A:=by exact⟨Dd++[x],O2,by rw[rG];simp,by simp,by rw[pZ];exact oT,hS.drop⟩):=k
def YcT(k:A:=by exact⟨by simp,fun x hx=>by cases hx⟩):=k
def YcU(k:A:=by exact⟨by simp[PF,Ts.nodes],by simp⟩):=k
def YcV(k:A:=by go_wp2_with fail;go_ret;refine⟨?_,yK⟩;rw[<-R.out,gB,HF.out,JY];rfl):=k
def YcW(k:A:=by unfold QS D7 KC at hg;simp only[XI,XO]at hg;exact⟨hg.1.1,hg.2.1⟩):=k
def YcX(k:A:=by have h7:=take_left (QY (QI num d) (s.adv.take [40])).2 [41];exact DM):=k
def YcY(k:A:=by simp only[XI,XO]at this;omega):=k
def YcZ(k:A:=by rw[sW]at h;exact absurd h YaC):=k
def Yc0(k:A:=by go_wp2_with fail;go_ret;exact⟨by rw[H1.out];rfl,h2,AM.refl _ _⟩):=k
def Yc1(k:A:=by clear hS;intro _ hS;apply Zq.b.1;exact oF _ _ _ ⟨_,rfl,hS⟩ Yb Yc):=k
def Yc2(k:A:=by exact grow none 0 rfl Ya (by simp[Builtin.firstCells,Sem.run,pure])):=k
def Yc3(k:A:=by simp only[QS,D7,XI]at hX;exact hX.1.2):=k
def Yc4(k:A:=by intro e2;have:=hu k e2;omega):=k
def Yc5(k:A:=by simp only[Qz,qI,sC,hdg,Bc,J0,X6,XT,Bool.false_or,X5];rw[wQ,e0];rfl):=k
def Yc6(k:A:=by simp only[XG,XJ,XP];exact Eb):=k
def Yc7(k:A:=by show 401-(wq+1)<401-wq;omega):=k
def Yc8(k:A:=by have:=QqF (P:=P) hq hR;exact⟨this.1,fun hh=> .inl (this.2 hh)⟩):=k
def Yc9(k:A:=by have:=yE.out k hk;exact JT _ _ _ _ Yg):=k
def Yda(k:A:=by exact⟨rfl,⟨h.1.chg h2 fun e=>QR.not_map h.1 h.2 e,h1⟩,h2⟩):=k
def Ydb(k:A:=by exact⟨by simp[Nd.zero],trivial,h⟩):=k
def ZW(k:A:=by exact qS _ _ _ (h.i he)):=k
def Ydd(k:A:=by obtain⟨v,hv,rfl⟩:=X3.1 hr;exact hG.bm.db (hG.qv v (XaW.1 hv))):=k
def SA(k:A:=by exact⟨rfl,hq⟩):=k
def Ydf(k:A:=by exact⟨rfl,_,F,oU,oK,hS.drop.drop⟩):=k
def Ydg(k:A:=by refine QN func147 rfl ?_;exact⟨rfl,Wr,Ws,Uu,Ge,hV,oE,hS⟩):=k
def Ydh(k:A:=by subst hx;show(Sem.bind (convert _ _ _) _).run _ _=_;rw[XN,h];rfl):=k
def Ydi(k:A:=by subst yL;obtain rfl:0=ll:=rD;apply Zq.iO.eW.bK.dK.gW.1;exact SH):=k
def Ydj(k:A:=by have h2:=Qgb (PK d) [41] p.pop.pop;have h3:=PB p.pop;exact DM):=k
def Ydk(k:A:=by rw[XA Ya,VF]at wT;rw[wT];apply Zq.W.m.aC.l.dG.a6.c.e5.1;exact Yn):=k
def Ydl(k:A:=by exact⟨Rs.stop oM Yf hR.out (XF _) (XF _) (XF _),fun hh=>OI⟩):=k
def Ydm(k:A:=by go_wp2_with fail;go_ret;refine⟨?_,uP⟩;rw[<-R.out,gB,hg];rfl):=k
def Ydn(k:A:=by simp only[XI,XO]at hn;omega):=k
def Ydo(k:A:=by have Il:lc<0:=hM;rw[show lc.toNat=0 by omega,Qkp]at Cr;exact Cr):=k
def Ydp(k:A:=by unfold QJ;have:(PS.start l).l.length=(FT l).length:=rfl;omega):=k
def Ydq(k:A:=by obtain⟨p0,p1,p2,p3,_⟩:=hS.four;clear hS;go_simp;exact rfl):=k
def Ydr(k:A:=by obtain⟨x,hx,rfl⟩:=X3.1 hc;have:=(UT (Hn x hx)).2.1;omega):=k
def Yds(k:A:=by apply Zq.b2.cW.v.h.K.hX.1;exact YaQ):=k
def Ydt(k:A:=by apply Zq.b2.cW.v.h.K.hV.1;exact YaQ):=k
def BS(k:A:=by exact this):=k
def Ydv(k:A:=by exact⟨rfl,E++[y],by rw[hE];simp,by rw[QhP];simp,by simp⟩):=k
def Ydw(k:A:=by exact⟨A,c,he,(hS.grow hb).learn fun w2 hx=>QG.ext hf hx⟩):=k
def Ydx(k:A:=by rintro _ w3 ⟨rfl,oD⟩;exact Ybb):=k
def Ydy(k:A:=by go_wp2_with fail;go_ret;exact⟨by rw[H1.out];rfl,h2,uU⟩):=k
def Ydz(k:A:=by exact⟨this.1,by have:=this.2;unfold FM at this;omega⟩):=k
def YdA(k:A:=by rintro _ _ ⟨rfl,qL⟩;apply Zq.aJ.e9.1;exact⟨rfl,qL⟩):=k
def YdB(k:A:=by apply Zq.iS.bN.y.e3.gA.bN.y.g.gI.D.i9.1;exact⟨rfl,hS⟩):=k
def YdC(k:A:=by obtain⟨b',o',e,h9⟩:=h7 hl;exact⟨b',o',e,rO h9 hq⟩):=k
def LI(k:A:=by congr 1;omega):=k
def YdE(k:A:=by rintro _ _ ⟨F',rfl,hF,qL⟩;apply Zq.aJ.e9.1;exact YcB):=k
def YdF(k:A:=by rw[JP (w:=w) (w':=w') (a:=⟨b,o+1,none⟩) e];exact h3):=k
def YdG(k:A:=by rw[JP (w:=w) (w':=w') (a:=⟨b,o+2,none⟩) e];exact h4):=k
def YdH(k:A:=by obtain⟨A,c,rfl,h2⟩:=h;exact⟨A,c,rfl,A,c,rfl,h2⟩):=k
def YdI(k:A:=by exact⟨A',c',O',rfl,oE,(hS.perm (XK O' [_] _)).drop⟩):=k
def NA(k:A:=by exact .inl rfl):=k
def YdK(k:A:=by rw[hT,Ts.nodes_app]at this;simp[Ts.nodes]at this;omega):=k
def YdL(k:A:=by clear hS;intro _ hS;apply Zq.eK.dX.dX.eB.b.1;exact Ybn):=k
def YdM(k:A:=by rw[JP (w:=w) (w':=w') (a:=⟨b,o,none⟩) e];exact h2):=k
def YdN(k:A:=by rw[HG.out,OZ,OZ];simp only[QV,VE,J9,Ts.nodes];omega):=k
def YdO(k:A:=by exact(vC.fn.far (p:=⟨lb,0,none⟩) vC.ne _).alloc _):=k
def YdP(k:A:=by simp only[Qz,qI,sC,hdg,J0,X6,XT,Xau,X5];rw[wQ,e0];rfl):=k
def YdQ(k:A:=by rw[XB qU];apply Zq.W.m.S.v.aY.e8.1;exact⟨rfl,hB⟩):=k
def YdR(k:A:=by rw[zI]at h;exact absurd h (by show¬wk+1<=400;omega)):=k
def YdS(k:A:=by exact⟨rfl,D++[x],by rw[rG];simp,by simp,hS.drop⟩):=k
def YdT(k:A:=by intro r w2 hr;exact YaM):=k
def YdU(k:A:=by have Re:=pK;rw[<-Qdk D]at Re⊢;exact St.shut Re h2):=k
def YdV(k:A:=by rw[sW]at h;exact absurd h (by show¬400<wq+1;omega)):=k
def YdW(k:A:=by rw[Ab,XG (bs:=[x])];rfl):=k
def YdX(k:A:=by rintro _ w6 ⟨rfl,qL⟩;apply Zq.aJ.dP.1;exact YcB):=k
def YdY(k:A:=by clear hS;intro _ hS;apply Zq.eK.dX.eB.b.1;exact Ybn):=k
def YdZ(k:A:=by rintro _ w8 ⟨rfl,hq⟩;apply Zq.aJ.iN.1;exact SA):=k
def Yd0(k:A:=by go_wp2_with fail;go_ret;exact⟨rfl,_,rP,rfl,uN⟩):=k
def Yd1(k:A:=by rw[OZ];simp only[QV,VE,J9,Ts.nodes]at Nb⊢;omega):=k
def Yd2(k:A:=by rintro e w' ⟨N,rfl,_,_,hb⟩;exact⟨N,rfl,hb⟩):=k
def Yd3(k:A:=by simp only[AJ,Ts.nodes];omega):=k
def Yd4(k:A:=by rw[HT.out,Qlw]at this;simp only[KF]at this;omega):=k
def Yd5(k:A:=by rw[Gr,OS]at tD;rw[OS];exact tD.cutS (QgO S) Ya):=k
def Yd6(k:A:=by simp only[execOp,hx,hy,bind,pure];rw[XN,hr];rfl):=k
def Yd7(k:A:=by show 401-(wk+1)<401-wk;omega):=k
def Yd8(k:A:=by subst Fi;exact hy.wpOp hi hS ⟨fun _=>hS,H⟩):=k
def Yd9(k:A:=by obtain⟨b,o,e,_⟩:=h.2.1 hl;exact⟨b,o,e⟩):=k
def Yea(k:A:=by exact⟨a1,by omega,a3,a4,by omega,by omega⟩):=k
def Yeb(k:A:=by go_enter func135,ntmps135;exact YbB):=k
def Yec(k:A:=by exact this _ T (WN _)):=k
def ZX(k:A:=by simp at this;omega):=k
def Yee(k:A:=by obtain⟨x,hx⟩:=Z4.1 ha;have:=O0 hx;omega):=k
def Yef(k:A:=by rw[BQ.prog _ p (XF _) hb h.2.2.2];exact h.1):=k
def Yeg(k:A:=by rw[e];have:=Qhp pH y;rw[et]at this;exact BS):=k
def Yeh(k:A:=by rw[wD,<-vF]at hh;rw[TA.lts_tm];exact hh.symm):=k
def Yei(k:A:=by show P.funcs[b.fn]?=some fn;rw[hb];exact hf):=k
def Yej(k:A:=by rw[Ts.goals_app,HD.out,Ts.goals,sU.out];rfl):=k
def Yek(k:A:=by exact⟨_,L4,V4,yU,rfl,Dv,Bf,rP _ _ _ hS⟩):=k
def Yel(k:A:=by exact⟨_,rfl,xP _ _ hS⟩):=k
def Yem(k:A:=by refine⟨?_,z2⟩;rw[TA.app_ts,y1,<-z1];rfl):=k
def Yen(k:A:=by rintro⟨e1,e2,e3⟩;exact⟨e3,by omega⟩):=k
def Yeo(k:A:=by obtain⟨k,hk,rfl⟩:=X3.1 hr;exact Ew k hk):=k
def Yep(k:A:=by obtain⟨a0,a1⟩:=Qq.1 ha;simp at a1;omega):=k
def Yeq(k:A:=by exact⟨this.1,this.2.1⟩):=k
def Yer(k:A:=by refine Qd func114 rfl Yb ?_;exact FI):=k
def Yes(k:A:=by refine Qd func116 rfl Yb ?_;exact FI):=k
def Yet(k:A:=by refine Qd func118 rfl Yb ?_;exact FI):=k
def Yeu(k:A:=by refine Qd func127 rfl Yb ?_;exact FI):=k
def Yev(k:A:=by refine Qd func128 rfl Yb ?_;exact FI):=k
def Yew(k:A:=by refine Qd func130 rfl Yb ?_;exact FI):=k
def Yex(k:A:=by exact⟨A,c,L,F',by rw[g1],g2,g3,g4,g5⟩):=k
def Yey(k:A:=by exact hon (Em oM) oM ⟨[],rfl⟩ rfl rfl):=k
def Yez(k:A:=by rw[hb.eq];exact⟨QrU ha,Qot ho ha _ _⟩):=k
def YeA(k:A:=by refine Qd func192 rfl Yb ?_;exact Yn):=k
def YeB(k:A:=by refine Qd func139 rfl Yb ?_;exact Yn):=k
def YeC(k:A:=by subst h;exact⟨by simp[Ts.nodes],rfl⟩):=k
def YeD(k:A:=by simp only[Qz,qI,sC,Xaw,X5];rw[wQ,e0];rfl):=k
def YeE(k:A:=by show p6.vars.length+p6.l.length<=_;omega):=k
def YeF(k:A:=by exact⟨A9,c9,L9,F9,rfl,hL9,rI,hK9,hS⟩):=k
namespace ZK
variable(x:ZK G A)
def kV(k:ZJ A B:=by intro zq;exact Qh func119 rfl ntmps119 rfl zq.1):=x.s k
def cD(k:ZJ A B:=by intro zq;exact QoA rfl zq.1):=x.s k
def jG(k:ZJ A B:=by intro zq;exact Qd func142 rfl Yb zq.1):=x.s k
def jH(k:ZJ A B:=by intro zq;exact M4 (by first|exact⟨_,hS⟩|exact⟨_,hS.drop⟩|exact⟨_,hS.forget Cy⟩|exact⟨_,hS.drop.forget Cy⟩) zq.1):=x.s k
def b5(k:ZJ A B:=by intro zq;exact Qe rfl (fun _ hS=>Qi (off:=2) rfl rfl) rfl zq.1):=x.s k
def h7(k:ZJ A B:=by intro zq;exact Qd func37 rfl Yb zq.1):=x.s k
def a0(k:ZJ A B:=by intro zq;exact QwG rfl zq.1):=x.s k
def gC(k:ZJ A B:=by intro zq;exact Qe rfl (fun _ hS=>Q0 (sz:=1) rfl rfl rfl rfl Ya Ya) rfl zq.1):=x.s k
def kW(k:ZJ A B:=by intro zq;exact XE (Qrc x.h (QB y.cl) hA hB y.A hc hd y.c _ wW.hh (uH.imp fun w h=>h.1) hS) zq.1):=x.s k
def kX(k:ZJ A B:=by intro zq;exact Qj rfl (fun _ hS=>Qhu rfl rfl Y0) rfl zq.1):=x.s k
def kY(k:ZJ A B:=by intro zq;first|exact Qe rfl (fun _ hS=>Qf hS rfl rfl Ym Yh) rfl zq.1|exact Qe rfl (fun _ hS=>Qm rfl rfl Y5) rfl zq.1):=x.s k
def fU(k:ZJ A B:=by intro zq;exact Qa (Qi (off:=8) rfl rfl) rfl zq.1):=x.s k
def g5(k:ZJ A B:=by intro zq;exact Qe rfl (fun _ hS=>Qi (off:=7) rfl rfl) rfl zq.1):=x.s k
def jI(k:ZJ A B:=by intro zq;exact LP func24 rfl Yb Yb zq.1):=x.s k
def dO(k:ZJ A B:=by intro zq;exact Qj rfl (fun _ hS=>Qjy rfl rfl) rfl zq.1):=x.s k
def g6(k:ZJ A B:=by intro zq;first|exact Qa (Qf hS rfl rfl Ym Yh) rfl zq.1|exact Qa (Qm rfl rfl (by first|assumption|exact oS _ hS|exact Ib _ hS|exact AP _ hS|exact hS.cell0 Ye|exact Qt hS|exact Qu hS)) rfl zq.1):=x.s k
def h8(k:ZJ A B:=by intro zq;exact XE (Qgu (c::r) _) zq.1):=x.s k
def bH(k:ZJ A B:=by intro zq;exact RD (cells:=[_]) hS (.cons Yb .nil) rfl rfl zq.1):=x.s k
def fG(k:ZJ A B:=by intro zq;first|exact Qa (Qf hS rfl rfl Ym Yh) rfl zq.1|exact Qa (Qm rfl rfl (by first|assumption|exact sL _ hS|exact(oS _ hS).1|exact(oS _ hS).2.1|exact(oS _ hS).2.2|exact hS.cell0 Ye|exact Qt hS|exact Qu hS)) rfl zq.1):=x.s k
def bI(k:ZJ A B:=by intro zq;exact Qa (Qi (off:=3) rfl rfl) rfl zq.1):=x.s k
def bJ(k:ZJ A B:=by intro zq;exact QwH rfl rfl rfl rfl zq.1):=x.s k
def gD(k:ZJ A B:=by intro zq;first|exact Qj rfl (fun _ hS=>Qb (k:=4) hS rfl rfl rfl Ym Yh) rfl zq.1|exact Qj rfl (fun _ hS=>Qb (k:=4) hS rfl rfl rfl Ym Ye) rfl zq.1|exact Qj rfl (fun _ hS=>Q7 rfl rfl rfl YD YD YD YD) rfl zq.1):=x.s k
def kZ(k:ZJ A B:=by intro zq;exact Qe rfl (fun _ hS=>Qh5 rfl rfl rfl Ya Y0) rfl zq.1):=x.s k
def jJ(k:ZJ A B:=by intro zq;exact Qh func81 rfl ntmps81 rfl zq.1):=x.s k
def eS(k:ZJ A B:=by intro zq;exact XE (QdY c _) zq.1):=x.s k
def g7(k:ZJ A B:=by intro zq;exact P4 (S8 Yc (Qzs Yb Yb Yb Yb Yb)) rfl zq.1):=x.s k
def k0(k:ZJ A B:=by intro zq;first|exact Qa (Qb (k:=4) hS rfl rfl rfl Ym Yh) rfl zq.1|exact Qa (Qb (k:=4) hS rfl rfl rfl Ym Ye) rfl zq.1|exact Qa (Q7 rfl rfl rfl YE YE YE YE) rfl zq.1):=x.s k
def jK(k:ZJ A B:=by intro zq;exact Qd func82 rfl Yb zq.1):=x.s k
def k1(k:ZJ A B:=by intro zq;exact PO (sz:=4) hS func160 rfl rfl rfl rfl Ym Yh zq.1):=x.s k
def k2(k:ZJ A B:=by intro zq;exact Qa (Qc7 rfl (Lib.run_unsafeSliceData_row _ _ _ _ _ _ Ya)) rfl zq.1):=x.s k
def h9(k:ZJ A B:=by intro zq;exact RD (cells:=[_,_,_,_,_,_]) hS (.cons Yb .nil) rfl rfl zq.1):=x.s k
def k3(k:ZJ A B:=by intro zq;exact Qg func48 rfl ntmps48 rfl zq.1):=x.s k
def k4(k:ZJ A B:=by intro zq;exact Qg func47 rfl ntmps47 rfl zq.1):=x.s k
def jL(k:ZJ A B:=by intro zq;exact XE (QpU h.tr N Mk h.tr.length Vg B _ A6 d _ c6 _ ((Xa.mono Gf).mono zH) ((hN.mono (fun φ h=>Cy φ (Jk φ h))).mono zH) (Gg.mono zH) (fun a ha=>by rw[wX];exact Ic a ha) qY rfl hS) zq.1):=x.s k
def b6(k:ZJ A B:=by intro zq;first|exact Qa (Qf hS rfl rfl Ym Yh) rfl zq.1|exact Qa (Qm rfl rfl (by first|assumption|exact(oS _ hS).1|exact(oS _ hS).2.1|exact(oS _ hS).2.2.1|exact(oS _ hS).2.2.2|exact hS.cell0 Ye|exact Qt hS|exact Qu hS)) rfl zq.1):=x.s k
def gE(k:ZJ A B:=by intro zq;exact QQ func104 rfl ntmps104 rfl zq.1):=x.s k
def e2(k:ZJ A B:=by intro zq;first|exact Qa (Qe0 (sz:=1) rfl rfl rfl rfl Ya Ya Ya) rfl zq.1|exact Qa (Qcs (sz:=1) rfl rfl rfl rfl Ya Ya) rfl zq.1):=x.s k
def d8(k:ZJ A B:=by intro zq;exact Qp2 zq.1):=x.s k
def fV(k:ZJ A B:=by intro zq;exact QH (St _ _ _ _) 9 ((0,true)::(1,true)::(2,true)::(3,true)::(4,true)::(5,true)::(6,true)::(7,true)::(8,true)::[]) Yc Yc (hS.drew) zq.1):=x.s k
def dH(k:ZJ A B:=by intro zq;exact UF (cs:=[_,_]) hS rfl rfl rfl zq.1):=x.s k
def k5(k:ZJ A B:=by intro zq;exact XE (Qmv u.cs _ B c u.tr.length d a _ (uH _ hS) Ya) zq.1):=x.s k
def fW(k:ZJ A B:=by intro zq;exact XE (SE s 1 _ hS) zq.1):=x.s k
def g8(k:ZJ A B:=by intro zq;first|exact Q3 rfl rfl rfl (fun _ hS=>Qb4 rfl rfl) rfl zq.1|exact Q3 rfl rfl rfl (fun _ hS=>Qht rfl rfl YaE) rfl zq.1|exact Q3 rfl rfl rfl (fun _ hS=>Qf9 rfl rfl Ya) rfl zq.1|exact Q3 rfl rfl rfl (fun _ hS=>rfl) rfl zq.1):=x.s k
def cP(k:ZJ A B:=by intro zq;first|exact Qa (Qpu rfl rfl Ya) rfl zq.1|exact Qa (Qsl rfl rfl Ya) rfl zq.1|exact Qa (rfl) rfl zq.1):=x.s k
def gF(k:ZJ A B:=by intro zq;exact Qj rfl (fun _ hS=>QD (cells:=[_,_]) (.cons Yb (.cons Yb .nil)) rfl) rfl zq.1):=x.s k
def e3(k:ZJ A B:=by intro zq;first|exact Qa (QjA rfl rfl rfl) rfl zq.1|exact Qa (QkD rfl rfl rfl) rfl zq.1):=x.s k
def k6(k:ZJ A B:=by intro zq;exact M4 (by first|exact hS|exact hS.drop|exact hS.drop.drop|exact hS.drop.drop.drop|exact hS.unlearn|exact hS.unlearn.drop|exact hS.unlearn.drop.drop|exact hS.forget rI) zq.1):=x.s k
def d0(k:ZJ A B:=by intro zq;exact Qe rfl (fun _ hS=>Q0 (sz:=3) rfl rfl rfl rfl Ya Ya) rfl zq.1):=x.s k
def iA(k:ZJ A B:=by intro zq;first|exact Qa (Qf hS rfl rfl Ym Yh) rfl zq.1|exact Qa (Qm rfl rfl Y3) rfl zq.1):=x.s k
def k7(k:ZJ A B:=by intro zq;exact Qa (v:= .pointer (some ⟨w.heap.size,0,none⟩)) (w':=w.alloc (.cells cs.toArray s)) zq.1 hd (h _ _ (hS.alloc _))):=x.s k
def eH(k:ZJ A B:=by intro zq;exact Qe rfl (fun _ hS=>Qc8 rfl rfl rfl) rfl zq.1):=x.s k
def g9(k:ZJ A B:=by intro zq;exact P4 (S8 Yc (Qzt Yb Yb Yb Yb)) rfl zq.1):=x.s k
def b(k:ZJ A B:=by intro zq;exact QwP zq.1):=x.s k
def k8(k:ZJ A B:=by intro zq;exact XE (L3 (c::r) s.adv A _ vc M w0 _ _ F b hG (by rw[<-pY];unfold RS.left at hl;omega) hS) zq.1):=x.s k
def cK(k:ZJ A B:=by intro zq;exact UF (cs:=[_,_,_]) hS rfl rfl rfl zq.1):=x.s k
def iB(k:ZJ A B:=by intro zq;exact XE (QdY x _) zq.1):=x.s k
def k9(k:ZJ A B:=by intro zq;first|exact Qj rfl (fun _ ⟨_,hS⟩=>Qf hS rfl rfl Ym Yh) rfl zq.1|exact Qj rfl (fun _ ⟨_,hS⟩=>Qm rfl rfl (by first|assumption|exact(oS _ hS).1|exact(oS _ hS).2.1|exact(oS _ hS).2.2.1|exact(oS _ hS).2.2.2|exact(xY _ hS).1|exact(xY _ hS).2.1|exact(xY _ hS).2.2.1|exact(xY _ hS).2.2.2|exact hS.cell0 Ye|exact Qt hS|exact Qu hS)) rfl zq.1):=x.s k
def lA(k:ZJ A B:=by intro zq;first|exact Qa (Qf hS rfl rfl Ym Yh) rfl zq.1|exact Qa (Qm rfl rfl (by first|assumption|exact hsv _ hS (.tail _ (.head _))|exact hS.cell0 Ye|exact Qt hS|exact Qu hS)) rfl zq.1):=x.s k
def hA(k:ZJ A B:=by intro zq;first|exact Qe rfl (fun _ hS=>Qb (k:=3) hS rfl rfl rfl Ym Yh) rfl zq.1|exact Qe rfl (fun _ hS=>Qb (k:=3) hS rfl rfl rfl Ym Ye) rfl zq.1|exact Qe rfl (fun _ hS=>NI rfl rfl rfl YE YE YE) rfl zq.1):=x.s k
def fX(k:ZJ A B:=by intro zq;exact QH (St _ _ _ _) 10 ((0,true)::(1,true)::(2,true)::(3,true)::(4,true)::(5,true)::(6,true)::(7,true)::(8,true)::(9,true)::[]) Yc Yc (hS.drew) zq.1):=x.s k
def lB(k:ZJ A B:=by intro zq;exact XE (QmD h.cs Mk A A2 A6 c c2 c6 _ (hCs.mono Gf) (Fg.mono Gf) Gg sT tH wX hS) zq.1):=x.s k
def lC(k:ZJ A B:=by intro zq;first|exact Qa (Qf hS rfl rfl Ym Yh) rfl zq.1|exact Qa (Qm rfl rfl Yat) rfl zq.1):=x.s k
def lD(k:ZJ A B:=by intro zq;exact QN func42 rfl zq.1):=x.s k
def f(k:ZJ A B:=by intro zq;exact P4 (S8 Yc (QxR Yb Yb)) rfl zq.1):=x.s k
def iC(k:ZJ A B:=by intro zq;exact Qd func185 rfl Yb zq.1):=x.s k
def jM(k:ZJ A B:=by intro zq;exact M4 (by first|exact hS|exact hS.drop|exact hS.drop.drop|exact hS.drop.drop.drop|exact hS.unlearn|exact hS.unlearn.drop|exact hS.unlearn.drop.drop|exact hS.dropL|exact hS.dropL.dropL|exact hS.drop.dropL.dropL) zq.1):=x.s k
def jN(k:ZJ A B:=by intro zq;exact Qd func203 rfl Yb zq.1):=x.s k
def jO(k:ZJ A B:=by intro zq;exact QH (St _ w0 [_] _) 10 ((0,true)::(1,true)::(2,true)::(3,true)::(4,true)::(5,true)::(6,true)::(7,true)::(8,true)::(9,true)::[]) Yc Yc (hS.drew.only1) zq.1):=x.s k
def jP(k:ZJ A B:=by intro zq;exact QsP (sz:=2) hS func95 rfl rfl Yb Yb Yb Yb rfl rfl Ym Yh zq.1):=x.s k
def jQ(k:ZJ A B:=by intro zq;first|exact Qe rfl (fun _ hS=>Qjw rfl rfl Ya) rfl zq.1|exact Qe rfl (fun _ hS=>Qk8 rfl rfl Ya) rfl zq.1|exact Qe rfl (fun _ hS=>rfl) rfl zq.1):=x.s k
def gG(k:ZJ A B:=by intro zq;exact Q3 rfl rfl rfl (fun _ hS=>Qi (off:=0) rfl rfl) rfl zq.1):=x.s k
def lE(k:ZJ A B:=by intro zq;first|exact Qa (Qb (k:=8) hS rfl rfl rfl Ym Yh) rfl zq.1|exact Qa (Qb (k:=8) hS rfl rfl rfl Ym Ye) rfl zq.1|exact Qa (run_load8 rfl rfl rfl Yw Yw Yw Yw Yw Yw Yw Yw) rfl zq.1):=x.s k
def Q(k:ZJ A B:=by intro zq;first|exact Qa (Qe1 rfl rfl) rfl zq.1|exact Qa (Qsj rfl rfl YaE) rfl zq.1|exact Qa (Qps rfl rfl Ya) rfl zq.1|exact Qa (rfl) rfl zq.1):=x.s k
def lF(k:ZJ A B:=by intro zq;exact XE (QbQ h.cs.length c A B h.tr.length d a _) zq.1):=x.s k
def eD(k:ZJ A B:=by intro zq;exact Qh func80 rfl ntmps80 rfl zq.1):=x.s k
def lG(k:ZJ A B:=by intro zq;exact M4 (by first|exact hS|exact hS.drop|exact hS.drop.drop|exact hS.drop.drop.drop|exact hS.unlearn|exact hS.unlearn.drop|exact hS.unlearn.drop.drop|exact hS.forget (fun φ h=>rI φ (.tail _ h))) zq.1):=x.s k
def jR(k:ZJ A B:=by intro zq;exact Qd func224 rfl Yb zq.1):=x.s k
def lH(k:ZJ A B:=by intro zq;first|exact Qe rfl (fun _ hS=>Qf hS rfl rfl Ym Yh) rfl zq.1|exact Qe rfl (fun _ hS=>Qm rfl rfl (by first|assumption|exact sH _ hS|exact hS.cell0 Ye|exact Qt hS|exact Qu hS)) rfl zq.1):=x.s k
def lI(k:ZJ A B:=by intro zq;first|exact Qa (Qf hS rfl rfl Ym Yh) rfl zq.1|exact Qa (Qm rfl rfl Y5) rfl zq.1):=x.s k
def bK(k:ZJ A B:=by intro zq;exact Qe rfl (fun _ hS=>Qfr Yb) rfl zq.1):=x.s k
def jS(k:ZJ A B:=by intro zq;exact Qd func218 rfl Yb zq.1):=x.s k
def I(k:ZJ A B:=by intro zq;first|exact Qa (Qpt rfl rfl Ya) rfl zq.1|exact Qa (Qsk rfl rfl Ya) rfl zq.1|exact Qa (rfl) rfl zq.1):=x.s k
def iD(k:ZJ A B:=by intro zq;exact Qg func69 rfl ntmps69 rfl zq.1):=x.s k
def jT(k:ZJ A B:=by intro zq;exact Qfi func154 rfl Yb Yb Yb zq.1):=x.s k
def iE(k:ZJ A B:=by intro zq;exact Qa (Qhu rfl rfl Y0) rfl zq.1):=x.s k
def y(k:ZJ A B:=by intro zq;first|exact Qa (Qf hS rfl rfl Ym Yh) rfl zq.1|exact Qa (Qm rfl rfl Y6) rfl zq.1):=x.s k
def S(k:ZJ A B:=by intro zq;first|exact Qa (Qjw rfl rfl Ya) rfl zq.1|exact Qa (Qk8 rfl rfl Ya) rfl zq.1|exact Qa (rfl) rfl zq.1):=x.s k
def lJ(k:ZJ A B:=by intro zq;first|exact Qj rfl (fun _ ⟨_,hS⟩=>Qb (k:=4) hS rfl rfl rfl Ym Yh) rfl zq.1|exact Qj rfl (fun _ ⟨_,hS⟩=>Qb (k:=4) hS rfl rfl rfl Ym Ye) rfl zq.1|exact Qj rfl (fun _ ⟨_,hS⟩=>Q7 rfl rfl rfl YC YC YC YC) rfl zq.1):=x.s k
def aR(k:ZJ A B:=by intro zq;exact Qyx rfl zq.1):=x.s k
def lK(k:ZJ A B:=by intro zq;exact Qa (QfT rfl (Lib.run_from_unsafe (P:=prog) w (u:=118) ⟨b,0,none⟩ rfl rfl rfl Mx Yc)) rfl zq.1):=x.s k
def lL(k:ZJ A B:=by intro zq;exact Qh func207 rfl ntmps207 rfl zq.1):=x.s k
def eE(k:ZJ A B:=by intro zq;exact Qa (QkA rfl rfl rfl rfl Ya Ya (by first|omega|(simp;omega))) rfl zq.1):=x.s k
def eT(k:ZJ A B:=by intro zq;first|exact Qa (Qb (k:=3) hS rfl rfl rfl Ym Yh) rfl zq.1|exact Qa (Qb (k:=3) hS rfl rfl rfl Ym Ye) rfl zq.1|exact Qa (NI rfl rfl rfl Yx Yx Yx) rfl zq.1):=x.s k
def fH(k:ZJ A B:=by intro zq;exact Qj rfl (fun _ hS=>Q0 (sz:=4) rfl rfl rfl rfl Ya Ya) rfl zq.1):=x.s k
def jU(k:ZJ A B:=by intro zq;exact XE (Xb _ hS) zq.1):=x.s k
def gH(k:ZJ A B:=by intro zq;first|exact Qa (Qf hS rfl rfl Ym Yh) rfl zq.1|exact Qa (Qm rfl rfl (by first|assumption|exact(qN hF _ hS).1|exact(qN hF _ hS).2.1|exact(qN hF _ hS).2.2.1|exact(qN hF _ hS).2.2.2.1|exact(qN hF _ hS).2.2.2.2.1|exact(qN hF _ hS).2.2.2.2.2|exact hS.cell0 Ye|exact Qt hS|exact Qu hS)) rfl zq.1):=x.s k
def eI(k:ZJ A B:=by intro zq;exact⟨zq.1,rfl⟩):=x.s k
def X(k:ZJ A B:=by intro zq;exact Qa (rfl) rfl zq.1):=x.s k
def lM(k:ZJ A B:=by intro zq;exact Qa (QD (cells:=[_,_,_]) (.cons Yb .nil) rfl) rfl zq.1):=x.s k
def hB(k:ZJ A B:=by intro zq;first|exact Qe rfl (fun _ hS=>Qf hS rfl rfl Ym Yh) rfl zq.1|exact Qe rfl (fun _ hS=>Qm rfl rfl (by first|assumption|exact(oL _ hS).1|exact(oL _ hS).2.1|exact(oL _ hS).2.2|exact rD _ hS (by simp)|exact hS.cell0 Ye|exact Qt hS|exact Qu hS)) rfl zq.1):=x.s k
def lN(k:ZJ A B:=by intro zq;exact RD (cells:=[_,_,_,_,_,_,_,_]) hS (.cons Yb .nil) rfl rfl zq.1):=x.s k
def lO(k:ZJ A B:=by intro zq;exact Qa (QZ (sz:=8) rfl rfl rfl rfl Ya Ya) rfl zq.1):=x.s k
def iF(k:ZJ A B:=by intro zq;exact M4 (by first|exact hS.bare1|exact hS.drop.bare1|exact hS.drop.drop.bare1|exact hS.drop.drop.drop.bare1) zq.1):=x.s k
def lP(k:ZJ A B:=by intro zq;exact Qa (Q0 (sz:=8) rfl rfl rfl rfl Ya Ya) rfl zq.1):=x.s k
def lQ(k:ZJ A B:=by intro zq;exact K1 (St _ _ _ _) 15 (.read 0 (.read 1 (.read 2 (.read 3 (.read 4 (.read 5 (.read 6 (.pick 7 (.read 8 (.read 9 (.read 10 (.read 11 (.read 12 (.read 13 (.read 14 .tail))))))) .none)))))))) Yc Yc hS.drew zq.1):=x.s k
def fI(k:ZJ A B:=by intro zq;exact Qa (Jl _ _ hr) hd zq.1):=x.s k
def hC(k:ZJ A B:=by intro zq;exact PT (by first|exact hS.bare2|exact hS.drop.bare2|exact hS.drop.drop.bare2) zq.1):=x.s k
def lR(k:ZJ A B:=by intro zq;exact Qh func65 rfl ntmps65 rfl zq.1):=x.s k
def lS(k:ZJ A B:=by intro zq;exact PO (sz:=6) hS func41 rfl rfl rfl rfl Ym Yh zq.1):=x.s k
def lT(k:ZJ A B:=by intro zq;exact EQ (sz:=1) (bts:=1) hS Yb rfl rfl rfl rfl (hB) rfl rfl (.cons _ VP.symm) Ya Ya rfl zq.1):=x.s k
def gI(k:ZJ A B:=by intro zq;first|exact Qa (QkB rfl rfl rfl) rfl zq.1|exact Qa (Qjt rfl rfl rfl) rfl zq.1|exact Qa (Qij rfl rfl rfl rfl) rfl zq.1):=x.s k
def fJ(k:ZJ A B:=by intro zq;exact LP func47 rfl Yb Yb zq.1):=x.s k
def dX(k:ZJ A B:=by intro zq;exact Qj rfl (fun _ hS=>Qfr Yb) rfl zq.1):=x.s k
def eN(k:ZJ A B:=by intro zq;first|exact Qa (Qb (k:=2) hS rfl rfl rfl Ym Yh) rfl zq.1|exact Qa (Qb (k:=2) hS rfl rfl rfl Ym Ye) rfl zq.1|exact Qa (M3 rfl rfl rfl (by first|assumption|exact tT _ hS|exact hS.cell0 Ye) (by first|assumption|exact tT _ hS|exact hS.cell0 Ye)) rfl zq.1):=x.s k
def gJ(k:ZJ A B:=by intro zq;exact Q3 rfl rfl rfl (fun _ hS=>Qi (off:=3) rfl rfl) rfl zq.1):=x.s k
def iG(k:ZJ A B:=by intro zq;exact⟨_,O',rfl,zq.1,hS⟩):=x.s k
def lU(k:ZJ A B:=by intro zq;first|exact Qa (Qb (k:=3) hS rfl rfl rfl Ym Yh) rfl zq.1|exact Qa (Qb (k:=3) hS rfl rfl rfl Ym Ye) rfl zq.1|exact Qa (NI rfl rfl rfl YK YK YK) rfl zq.1):=x.s k
def eU(k:ZJ A B:=by intro zq;first|exact Qa (Qf hS rfl rfl Ym Yh) rfl zq.1|exact Qa (Qm rfl rfl YaB) rfl zq.1):=x.s k
def e4(k:ZJ A B:=by intro zq;exact PO (sz:=4) hS func72 rfl rfl rfl rfl Ym Yh zq.1):=x.s k
def jV(k:ZJ A B:=by intro zq;exact Qg func110 rfl ntmps110 rfl zq.1):=x.s k
def d1(k:ZJ A B:=by intro zq;exact Qa (Qfr Yb) rfl zq.1):=x.s k
def lV(k:ZJ A B:=by intro zq;exact XE (QbQ h.cs.length c A B h.tr.length d x _) zq.1):=x.s k
def gK(k:ZJ A B:=by intro zq;exact Qe rfl (fun _ hS=>Qhu rfl rfl Y0) rfl zq.1):=x.s k
def cL(k:ZJ A B:=by intro zq;first|exact Qe rfl (fun _ hS=>Qf hS rfl rfl Ym Yh) rfl zq.1|exact Qe rfl (fun _ hS=>Qm rfl rfl Yac) rfl zq.1):=x.s k
def lW(k:ZJ A B:=by intro zq;exact QH (St _ w0 [_] _) 12 ((0,true)::(1,true)::(2,true)::(3,true)::(4,true)::(5,true)::(6,true)::(7,true)::(8,true)::(9,true)::(10,true)::(11,true)::[]) Yc Yc (hS.drew.only1) zq.1):=x.s k
def gL(k:ZJ A B:=by intro zq;exact Qd func196 rfl Yb zq.1):=x.s k
def jW(k:ZJ A B:=by intro zq;exact QN func109 rfl zq.1):=x.s k
def hD(k:ZJ A B:=by intro zq;exact XE (Qky l _) zq.1):=x.s k
def hE(k:ZJ A B:=by intro zq;exact Qa (Qi (off:=7) rfl rfl) rfl zq.1):=x.s k
def fK(k:ZJ A B:=by intro zq;exact PT (by first|exact hS|exact hS.drop|exact hS.drop.drop|exact hS.drop.drop.drop|exact hS.unlearn|exact hS.unlearn.drop|exact hS.unlearn.drop.drop|exact hS.forget Ye|exact hS.drop.forget Ye) zq.1):=x.s k
def jX(k:ZJ A B:=by intro zq;first|exact Qa (Qb (k:=4) hS rfl rfl rfl Ym Yh) rfl zq.1|exact Qa (Qb (k:=4) hS rfl rfl rfl Ym Ye) rfl zq.1|exact Qa (Q7 rfl rfl rfl Yr Yr Yr Yr) rfl zq.1):=x.s k
def lX(k:ZJ A B:=by intro zq;exact Qg func130 rfl ntmps130 rfl zq.1):=x.s k
def iH(k:ZJ A B:=by intro zq;first|exact Qe rfl (fun _ hS=>Qf hS rfl rfl Ym Yh) rfl zq.1|exact Qe rfl (fun _ hS=>Qm rfl rfl (by first|assumption|exact uU _ hS|exact sX _ hS|exact hS.cell0 Ye|exact Qt hS|exact Qu hS)) rfl zq.1):=x.s k
def iI(k:ZJ A B:=by intro zq;first|exact Qe rfl (fun _ hS=>QtV rfl rfl Ya Ya) rfl zq.1|exact Qe rfl (fun _ hS=>Qk2 rfl rfl) rfl zq.1):=x.s k
def gM(k:ZJ A B:=by intro zq;exact K7 hS rfl Yb rfl rfl (.tail .head) (by rw[XQ,JN];exact qT) (.tail .head) zq.1):=x.s k
def e5(k:ZJ A B:=by intro zq;exact Qd func38 rfl Yb zq.1):=x.s k
def gN(k:ZJ A B:=by intro zq;exact RD (cells:=[_,_,_]) hS (.cons Yb .nil) rfl rfl zq.1):=x.s k
def lY(k:ZJ A B:=by intro zq;exact QH (St _ _ _ _) 8 ((0,true)::(1,true)::(2,true)::(3,true)::(4,true)::(5,true)::(6,true)::(7,true)::[]) Yc Yc (hS.drew) zq.1):=x.s k
def jY(k:ZJ A B:=by intro zq;exact LP func15 rfl Yb Yb zq.1):=x.s k
def O(k:ZJ A B:=by intro zq;exact Qa (ZV rfl) rfl zq.1):=x.s k
def hF(k:ZJ A B:=by intro zq;exact Qg func131 rfl ntmps131 rfl zq.1):=x.s k
def jZ(k:ZJ A B:=by intro zq;exact QH (St _ _ _ _) 16 ((0,true)::(1,true)::(2,true)::(3,true)::(4,true)::(5,true)::(6,true)::(7,true)::(8,true)::(9,true)::(10,true)::(11,true)::(12,true)::(13,true)::(14,true)::(15,true)::[]) Yc Yc (hS.drew) zq.1):=x.s k
def lZ(k:ZJ A B:=by intro zq;exact Qg func113 rfl ntmps113 rfl zq.1):=x.s k
def aC(k:ZJ A B:=by intro zq;exact Qa (Qc8 rfl rfl rfl) rfl zq.1):=x.s k
def l0(k:ZJ A B:=by intro zq;exact Qd func174 rfl Yb zq.1):=x.s k
def j0(k:ZJ A B:=by intro zq;exact Qd func55 rfl Yb zq.1):=x.s k
def l1(k:ZJ A B:=by intro zq;exact QH (St _ _ _ _) 8 ((0,true)::(1,true)::(2,true)::(3,true)::(4,false)::(5,true)::(6,true)::(7,true)::[]) Yc Yc (hS.drew) zq.1):=x.s k
def gO(k:ZJ A B:=by intro zq;exact Qe rfl (fun _ hS=>Qi (off:=9) rfl rfl) rfl zq.1):=x.s k
def eF(k:ZJ A B:=by intro zq;exact Qe rfl (fun _ hS=>ZV rfl) rfl zq.1):=x.s k
def fY(k:ZJ A B:=by intro zq;first|exact Qa (Qf hS rfl rfl Ym Yh) rfl zq.1|exact Qa (Qm rfl rfl (by first|assumption|exact hsv _ hS (.tail _ (.head _))|exact rD _ hS (by simp[sT])|exact hS.cell0 Ye|exact Qt hS|exact Qu hS)) rfl zq.1):=x.s k
def l2(k:ZJ A B:=by intro zq;exact M4 (by first|exact⟨_,hS⟩|exact⟨_,hS.drop⟩) zq.1):=x.s k
def l3(k:ZJ A B:=by intro zq;exact Qa (Qc7 rfl rfl) rfl zq.1):=x.s k
def fZ(k:ZJ A B:=by intro zq;exact QhG (sz:=2) hS func155 rfl rfl Yb Yb rfl rfl Ym Yh zq.1):=x.s k
def j1(k:ZJ A B:=by intro zq;exact Qa (Qej rfl rfl rfl) rfl zq.1):=x.s k
def l4(k:ZJ A B:=by intro zq;exact QN func110 rfl zq.1):=x.s k
def bC(k:ZJ A B:=by intro zq;exact Qe rfl (fun _ hS=>Qi (off:=0) rfl rfl) rfl zq.1):=x.s k
def gP(k:ZJ A B:=by intro zq;exact XE (sM) zq.1):=x.s k
def gQ(k:ZJ A B:=by intro zq;exact XE (hc _ ⟨K,oA,oc,O,hK,tF,oE,hS⟩) zq.1):=x.s k
def l5(k:ZJ A B:=by intro zq;first|exact Qa (Qb (k:=3) hS rfl rfl rfl Ym Yh) rfl zq.1|exact Qa (Qb (k:=3) hS rfl rfl rfl Ym Ye) rfl zq.1|exact Qa (NI rfl rfl rfl Y1 Y1 Y1) rfl zq.1):=x.s k
def j2(k:ZJ A B:=by intro zq;exact XE (Qdd _ _ _ _ _ _ _) zq.1):=x.s k
def l6(k:ZJ A B:=by intro zq;first|exact Qj rfl (fun _ hS=>Qb (k:=4) hS rfl rfl rfl Ym Yh) rfl zq.1|exact Qj rfl (fun _ hS=>Qb (k:=4) hS rfl rfl rfl Ym Ye) rfl zq.1|exact Qj rfl (fun _ hS=>Q7 rfl rfl rfl Yy Yy Yy Yy) rfl zq.1):=x.s k
def iJ(k:ZJ A B:=by intro zq;first|exact Qa (QkG rfl rfl rfl) rfl zq.1|exact Qa (rfl) rfl zq.1):=x.s k
def iK(k:ZJ A B:=by intro zq;exact Qd func98 rfl Yb zq.1):=x.s k
def l7(k:ZJ A B:=by intro zq;first|exact Qj rfl (fun _ hS=>Qf hS rfl rfl Ym Yh) rfl zq.1|exact Qj rfl (fun _ hS=>Qm rfl rfl YaB) rfl zq.1):=x.s k
def l8(k:ZJ A B:=by intro zq;exact XE (QeV L1 (FP s.rest) _ Ya) zq.1):=x.s k
def hG(k:ZJ A B:=by intro zq;exact Qa (QD (cells:=[_,_,_,_,_,_]) (.cons Yb (.cons Yb (.cons Yb .nil))) rfl) rfl zq.1):=x.s k
def iL(k:ZJ A B:=by intro zq;exact Qd func239 rfl Yb zq.1):=x.s k
def eJ(k:ZJ A B:=by intro zq;exact Qj rfl (fun _ ⟨_,hS⟩=>QgF Yb) rfl zq.1):=x.s k
def eK(k:ZJ A B:=by intro zq;exact M4 (by first|exact hS|exact hS.drop|exact hS.drop.drop|exact hS.drop.drop.drop|exact hS.unlearn|exact hS.unlearn.drop|exact hS.unlearn.drop.drop|exact hS.forget rI|exact hS.drop.forget rI) zq.1):=x.s k
def f0(k:ZJ A B:=by intro zq;exact⟨rfl,zq.1⟩):=x.s k
def iM(k:ZJ A B:=by intro zq;exact QH (St _ _ _ _) 17 ((0,true)::(1,true)::(2,true)::(3,true)::(4,true)::(5,true)::(6,true)::(7,true)::(8,true)::(9,true)::(10,true)::(11,true)::(12,true)::(13,true)::(14,true)::(15,true)::(16,true)::[]) Yc Yc (hS.drew) zq.1):=x.s k
def l9(k:ZJ A B:=by intro zq;exact Qa (QZ (sz:=3) rfl rfl rfl rfl Ya Ya) rfl zq.1):=x.s k
def aV(k:ZJ A B:=by intro zq;first|exact Qa (Qf hS rfl rfl Ym Yh) rfl zq.1|exact Qa (Qm rfl rfl Yad) rfl zq.1):=x.s k
def cE(k:ZJ A B:=by intro zq;first|exact Qa (Qb (k:=4) hS rfl rfl rfl Ym Yh) rfl zq.1|exact Qa (Qb (k:=4) hS rfl rfl rfl Ym Ye) rfl zq.1|exact Qa (Q7 rfl rfl rfl Yw Yw Yw Yw) rfl zq.1):=x.s k
def iN(k:ZJ A B:=by intro zq;exact Qd func31 rfl Yb zq.1):=x.s k
def mA(k:ZJ A B:=by intro zq;exact K7 hS rfl Yb rfl rfl .head (Qxx L0) .head zq.1):=x.s k
def iO(k:ZJ A B:=by intro zq;exact Qa (Qei rfl rfl (Lib.run_unsafeString_none _ _ _ _ _)) rfl zq.1):=x.s k
def mB(k:ZJ A B:=by intro zq;exact Qa (QnE rfl rfl Ya Ya) rfl zq.1):=x.s k
def d9(k:ZJ A B:=by intro zq;exact Qa (QD (cells:=[_,_,_,_]) (.cons Yb (.cons Yb .nil)) rfl) rfl zq.1):=x.s k
def Y(k:ZJ A B:=by intro zq;exact Qa (Qi (off:=2) rfl rfl) rfl zq.1):=x.s k
def fL(k:ZJ A B:=by intro zq;first|exact Qa (Qym rfl Ya Ya) rfl zq.1|exact Qa (rfl) rfl zq.1):=x.s k
def gR(k:ZJ A B:=by intro zq;exact Q3 rfl rfl rfl (fun _ hS=>Qc8 rfl rfl rfl) rfl zq.1):=x.s k
def j3(k:ZJ A B:=by intro zq;exact Qd func97 rfl Yb zq.1):=x.s k
def T(k:ZJ A B:=by intro zq;exact Qa (Q0 (sz:=1) rfl rfl rfl rfl Ya Ya) rfl zq.1):=x.s k
def gS(k:ZJ A B:=by intro zq;first|exact Q3 rfl rfl rfl (fun _ hS=>Qf hS rfl rfl Ym Yh) rfl zq.1|exact Q3 rfl rfl rfl (fun _ hS=>Qm rfl rfl YJ) rfl zq.1):=x.s k
def mC(k:ZJ A B:=by intro zq;exact EQ (sz:=1) (bts:=16) hS Yb rfl rfl rfl rfl (oE) rfl rfl (List.Perm.cons _ (XK [_,_] O [])) Ya Ya rfl zq.1):=x.s k
def mD(k:ZJ A B:=by intro zq;first|exact Qe rfl (fun _ hS=>Qf hS rfl rfl Ym Yh) rfl zq.1|exact Qe rfl (fun _ hS=>Qm rfl rfl Y3) rfl zq.1):=x.s k
def mE(k:ZJ A B:=by intro zq;exact QH (fun _=>True) 13 ((0,true)::(1,true)::(2,true)::(3,true)::(4,true)::(5,true)::(6,true)::(7,true)::(8,true)::(9,true)::(10,false)::(11,true)::(12,true)::[]) Yc Yc (trivial) zq.1):=x.s k
def mF(k:ZJ A B:=by intro zq;exact Qa (QfS rfl (Lib.run_convert_string_bytes _ _ _ 5 _ (u:= .string) Yc Yc Yc)) rfl zq.1):=x.s k
def j4(k:ZJ A B:=by intro zq;first|exact Qe rfl (fun _ hS=>Qf hS rfl rfl Ym Yh) rfl zq.1|exact Qe rfl (fun _ hS=>Qm rfl rfl YV) rfl zq.1):=x.s k
def mG(k:ZJ A B:=by intro zq;exact Q3 rfl rfl rfl (fun _ hS=>Qi (off:=5) rfl rfl) rfl zq.1):=x.s k
def mH(k:ZJ A B:=by intro zq;exact Qe rfl (fun _ hS=>QfQ rfl rfl rfl Ya Y0) rfl zq.1):=x.s k
def c5(k:ZJ A B:=by intro zq;exact Qa (Qpv rfl rfl rfl) rfl zq.1):=x.s k
def eO(k:ZJ A B:=by intro zq;exact XE (UI E p.2 _ hE.rd h2 hE.ok hS) zq.1):=x.s k
def mI(k:ZJ A B:=by intro zq;exact Qa (QD (cells:=[_,_,_,_]) (.cons Yb (.cons Yb (.cons Yb .nil))) rfl) rfl zq.1):=x.s k
def mJ(k:ZJ A B:=by intro zq;first|exact Qj rfl (fun _ hS=>Qb (k:=4) hS rfl rfl rfl Ym Yh) rfl zq.1|exact Qj rfl (fun _ hS=>Qb (k:=4) hS rfl rfl rfl Ym Ye) rfl zq.1|exact Qj rfl (fun _ hS=>Q7 rfl rfl rfl Yo Yo Yo Yo) rfl zq.1):=x.s k
def iP(k:ZJ A B:=by intro zq;exact Qj rfl (fun _ ⟨_,hS⟩=>ZV rfl) rfl zq.1):=x.s k
def hH(k:ZJ A B:=by intro zq;exact Qa (Q0 (sz:=2) rfl rfl rfl rfl Ya Ya) rfl zq.1):=x.s k
def j5(k:ZJ A B:=by intro zq;first|exact Qj rfl (fun _ hS=>Qb (k:=4) hS rfl rfl rfl Ym Yh) rfl zq.1|exact Qj rfl (fun _ hS=>Qb (k:=4) hS rfl rfl rfl Ym Ye) rfl zq.1|exact Qj rfl (fun _ hS=>Q7 rfl rfl rfl Yw Yw Yw Yw) rfl zq.1):=x.s k
def E(k:ZJ A B:=by intro zq;exact Qw7 zq.1):=x.s k
def hI(k:ZJ A B:=by intro zq;first|exact Qa (Qf hS rfl rfl Ym Yh) rfl zq.1|exact Qa (Qm rfl rfl (by first|assumption|exact(pJ _ hS (by simp)).1|exact(pJ _ hS (by simp)).2.1|exact(pJ _ hS (by simp)).2.2.1|exact(pJ _ hS (by simp)).2.2.2|exact hS.cell0 Ye|exact Qt hS|exact Qu hS)) rfl zq.1):=x.s k
def eV(k:ZJ A B:=by intro zq;exact UF (cs:=[_,_,_,_,_,_]) hS rfl rfl rfl zq.1):=x.s k
def mK(k:ZJ A B:=by intro zq;exact PO (sz:=4) hS func158 rfl rfl rfl rfl Ym Yh zq.1):=x.s k
def e6(k:ZJ A B:=by intro zq;exact⟨zq.1,by simp[Ts.nodes]⟩):=x.s k
def mL(k:ZJ A B:=by intro zq;exact QH (St _ w0 [_] _) 9 ((0,true)::(1,true)::(2,true)::(3,true)::(4,true)::(5,false)::(6,false)::(7,false)::(8,true)::[]) Yc Yc (hS.drew.only1) zq.1):=x.s k
def hJ(k:ZJ A B:=by intro zq;exact Qj rfl (fun _ ⟨_,hS⟩=>Qi (off:=3) rfl rfl) rfl zq.1):=x.s k
def r(k:ZJ A B:=by intro zq;first|exact Qa (Qjx rfl rfl Ya) rfl zq.1|exact Qa (Qk9 rfl rfl Ya) rfl zq.1|exact Qa (rfl) rfl zq.1):=x.s k
def aW(k:ZJ A B:=by intro zq;exact Qvb zq.1):=x.s k
def mM(k:ZJ A B:=by intro zq;exact Qh func115 rfl ntmps115 rfl zq.1):=x.s k
def cQ(k:ZJ A B:=by intro zq;exact Qa (Qi (off:=5) rfl rfl) rfl zq.1):=x.s k
def d2(k:ZJ A B:=by intro zq;exact Qa (QD (cells:=[_,_,_,_]) .nil rfl) rfl zq.1):=x.s k
def R(k:ZJ A B:=by intro zq;exact UF (cs:=[_,_,_,_]) hS rfl rfl rfl zq.1):=x.s k
def mN(k:ZJ A B:=by intro zq;exact UF (cs:=[_,_,_,_,_,_,_,_]) hS rfl rfl rfl zq.1):=x.s k
def eG(k:ZJ A B:=by intro zq;first|exact Qa (Qf hS rfl rfl Ym Yh) rfl zq.1|exact Qa (Qm rfl rfl YJ) rfl zq.1):=x.s k
def iQ(k:ZJ A B:=by intro zq;exact Qd8 (sz:=2) hS func189 rfl rfl Yb rfl rfl Ym Yh zq.1):=x.s k
def mO(k:ZJ A B:=by intro zq;first|exact Qe rfl (fun _ hS=>QkE rfl rfl Ye) rfl zq.1|exact Qe rfl (fun _ hS=>QkF rfl rfl Ye) rfl zq.1):=x.s k
def gT(k:ZJ A B:=by intro zq;exact Qa (QD (cells:=[_,_,_,_]) (.cons Yb .nil) rfl) rfl zq.1):=x.s k
def mP(k:ZJ A B:=by intro zq;first|exact Qe rfl (fun _ hS=>Qb (k:=3) hS rfl rfl rfl Ym Yh) rfl zq.1|exact Qe rfl (fun _ hS=>Qb (k:=3) hS rfl rfl rfl Ym Ye) rfl zq.1|exact Qe rfl (fun _ hS=>NI rfl rfl rfl YQ YQ YQ) rfl zq.1):=x.s k
def j6(k:ZJ A B:=by intro zq;exact Qj rfl (fun _ hS=>Qi (off:=1) rfl rfl) rfl zq.1):=x.s k
def b3(k:ZJ A B:=by intro zq;first|exact Qa (QtV rfl rfl Ya Ya) rfl zq.1|exact Qa (Qk2 rfl rfl) rfl zq.1):=x.s k
def mQ(k:ZJ A B:=by intro zq;exact Qa (QnG (len:=7) (el:=9) (sz:=1) rfl rfl rfl rfl Ya Ya) rfl zq.1):=x.s k
def hK(k:ZJ A B:=by intro zq;exact Qfi func48 rfl Yb Yb Yb zq.1):=x.s k
def d(k:ZJ A B:=by intro zq;exact Qfy hS rfl Yb rfl rfl Ym Yh Ym zq.1):=x.s k
def hL(k:ZJ A B:=by intro zq;exact Qd func79 rfl Yb zq.1):=x.s k
def iR(k:ZJ A B:=by intro zq;exact Qa (Qjy rfl rfl) rfl zq.1):=x.s k
def J(k:ZJ A B:=by intro zq;exact K7 hS rfl Yb rfl rfl Ym Yh Ym zq.1):=x.s k
def gU(k:ZJ A B:=by intro zq;first|exact Qa (Qf hS rfl rfl Ym Yh) rfl zq.1|exact Qa (Qm rfl rfl (by first|assumption|exact(oS _ hS).1|exact(oS _ hS).2.1|exact(oS _ hS).2.2|exact Ib _ hS|exact AP _ hS|exact hS.cell0 Ye|exact Qt hS|exact Qu hS)) rfl zq.1):=x.s k
def mR(k:ZJ A B:=by intro zq;exact Q3 rfl rfl rfl (fun _ hS=>Qi (off:=6) rfl rfl) rfl zq.1):=x.s k
def mS(k:ZJ A B:=by intro zq;exact Qg func93 rfl ntmps93 rfl zq.1):=x.s k
def mT(k:ZJ A B:=by intro zq;exact K7 hS rfl Yb rfl rfl .head (by rw[Fh,XQ,JN];exact qT) .head zq.1):=x.s k
def a5(k:ZJ A B:=by intro zq;exact Qe rfl (fun _ hS=>QgF Yb) rfl zq.1):=x.s k
def hM(k:ZJ A B:=by intro zq;exact Qg func166 rfl ntmps166 rfl zq.1):=x.s k
def mU(k:ZJ A B:=by intro zq;exact⟨.slice none 0 0,_,_,VH,rfl,Gh,hV,zq.1⟩):=x.s k
def mV(k:ZJ A B:=by intro zq;exact XE (QqA x.h (c.bound:Nat) hA hB hc hd _ oK.hh hS) zq.1):=x.s k
def eW(k:ZJ A B:=by intro zq;exact PT hS zq.1):=x.s k
def iS(k:ZJ A B:=by intro zq;exact Qg func107 rfl ntmps107 rfl zq.1):=x.s k
def mW(k:ZJ A B:=by intro zq;exact PT (by first|exact hS.only2|exact hS.drop.only2|exact hS.unlearn.only2|exact hS.unlearn.drop.only2) zq.1):=x.s k
def bA(k:ZJ A B:=by intro zq;exact P4 (S8 Yc (QxQ Yb Yb Yb)) rfl zq.1):=x.s k
def eA(k:ZJ A B:=by intro zq;exact Qe rfl (fun _ hS=>Qi (off:=3) rfl rfl) rfl zq.1):=x.s k
def gV(k:ZJ A B:=by intro zq;first|exact Qa (Qf hS rfl rfl Ym Yh) rfl zq.1|exact Qa (Qm rfl rfl Yac) rfl zq.1):=x.s k
def hN(k:ZJ A B:=by intro zq;exact Qd8 (sz:=2) hS func190 rfl rfl Yb rfl rfl Ym Yh zq.1):=x.s k
def mX(k:ZJ A B:=by intro zq;exact Qj rfl (fun _ ⟨_,hS⟩=>Qi (off:=4) rfl rfl) rfl zq.1):=x.s k
def j7(k:ZJ A B:=by intro zq;exact PO (sz:=3) hS func138 rfl rfl rfl rfl Ym Yh zq.1):=x.s k
def d3(k:ZJ A B:=by intro zq;exact QyF hS rfl rfl zq.1):=x.s k
def gW(k:ZJ A B:=by intro zq;exact Qd func69 rfl Yb zq.1):=x.s k
def j8(k:ZJ A B:=by intro zq;exact Qa (Qi (off:=6) rfl rfl) rfl zq.1):=x.s k
def j9(k:ZJ A B:=by intro zq;exact Qh func72 rfl ntmps72 rfl zq.1):=x.s k
def mY(k:ZJ A B:=by intro zq;exact QN func44 rfl zq.1):=x.s k
def dP(k:ZJ A B:=by intro zq;exact Qd func104 rfl Yb zq.1):=x.s k
def mZ(k:ZJ A B:=by intro zq;exact Qfy hS rfl (by rfl) rfl rfl (.tail (.tail .head)) (by rw[XQ];exact qT _) (.tail (.tail .head)) zq.1):=x.s k
def kA(k:ZJ A B:=by intro zq;exact XE hg zq.1):=x.s k
def gX(k:ZJ A B:=by intro zq;exact LP func34 rfl Yb Yb zq.1):=x.s k
def m0(k:ZJ A B:=by intro zq;first|exact Qa (Qb (k:=2) hS rfl rfl rfl Ym Yh) rfl zq.1|exact Qa (Qb (k:=2) hS rfl rfl rfl Ym Ye) rfl zq.1|exact Qa (M3 rfl rfl rfl (by first|assumption|exact Jm _ hS|exact hS.cell0 Ye) (by first|assumption|exact Jm _ hS|exact hS.cell0 Ye)) rfl zq.1):=x.s k
def gY(k:ZJ A B:=by intro zq;exact Qd func58 rfl Yb zq.1):=x.s k
def hO(k:ZJ A B:=by intro zq;exact Qe rfl (fun _ hS=>Q0 (sz:=4) rfl rfl rfl rfl Ya Ya) rfl zq.1):=x.s k
def m1(k:ZJ A B:=by intro zq;exact Qa (QD (cells:=[_,_,_,_,_,_]) (.cons Yb .nil) rfl) rfl zq.1):=x.s k
def f1(k:ZJ A B:=by intro zq;exact QuN rfl rfl zq.1):=x.s k
def b1(k:ZJ A B:=by intro zq;first|exact Qa (Qb (k:=2) hS rfl rfl rfl Ym Yh) rfl zq.1|exact Qa (Qb (k:=2) hS rfl rfl rfl Ym Ye) rfl zq.1|exact Qa (M3 rfl rfl rfl Yw Yw) rfl zq.1):=x.s k
def hP(k:ZJ A B:=by intro zq;exact XE (Qu6 EP c _) zq.1):=x.s k
def kB(k:ZJ A B:=by intro zq;exact Qd func102 rfl Yb zq.1):=x.s k
def dI(k:ZJ A B:=by intro zq;first|exact Qa (Qb (k:=4) hS rfl rfl rfl Ym Yh) rfl zq.1|exact Qa (Qb (k:=4) hS rfl rfl rfl Ym Ye) rfl zq.1|exact Qa (Q7 rfl rfl rfl Yu Yu Yu Yu) rfl zq.1):=x.s k
def iT(k:ZJ A B:=by intro zq;first|exact Qa (Qb (k:=3) hS rfl rfl rfl Ym Yh) rfl zq.1|exact Qa (Qb (k:=3) hS rfl rfl rfl Ym Ye) rfl zq.1|exact Qa (NI rfl rfl rfl YW YW YW) rfl zq.1):=x.s k
def fM(k:ZJ A B:=by intro zq;exact XE (pY) zq.1):=x.s k
def m2(k:ZJ A B:=by intro zq;exact QiJ (sz:=4) (bts:=56) hS rfl rfl rfl rfl Ya Ya rfl zq.1):=x.s k
def a7(k:ZJ A B:=by intro zq;exact Qj rfl (fun _ hS=>QgF Yb) rfl zq.1):=x.s k
def bR(k:ZJ A B:=by intro zq;exact Qa (Q0 (sz:=3) rfl rfl rfl rfl Ya Ya) rfl zq.1):=x.s k
def aX(k:ZJ A B:=by intro zq;exact QoD zq.1):=x.s k
def m3(k:ZJ A B:=by intro zq;exact XE (hcall _ (hL.mono vS) hg hl wY qL Ya Ya Ya Ya Ya (hS.perm (XK [_,_,_] [_,_] _))) zq.1):=x.s k
def hQ(k:ZJ A B:=by intro zq;first|exact Qa (Qb (k:=4) hS rfl rfl rfl Ym Yh) rfl zq.1|exact Qa (Qb (k:=4) hS rfl rfl rfl Ym Ye) rfl zq.1|exact Qa (Q7 rfl rfl rfl YH YH YH YH) rfl zq.1):=x.s k
def iU(k:ZJ A B:=by intro zq;first|exact Qe rfl (fun _ hS=>Qb (k:=4) hS rfl rfl rfl Ym Yh) rfl zq.1|exact Qe rfl (fun _ hS=>Qb (k:=4) hS rfl rfl rfl Ym Ye) rfl zq.1|exact Qe rfl (fun _ hS=>Q7 rfl rfl rfl Yw Yw Yw Yw) rfl zq.1):=x.s k
def dY(k:ZJ A B:=by intro zq;exact PO (sz:=4) hS func80 rfl rfl rfl rfl Ym Yh zq.1):=x.s k
def L(k:ZJ A B:=by intro zq;exact Qa (Qi (off:=1) rfl rfl) rfl zq.1):=x.s k
def m4(k:ZJ A B:=by intro zq;exact Qa (QD (cells:=[_,_]) (.cons Yb (.cons Yb .nil)) rfl) rfl zq.1):=x.s k
def iV(k:ZJ A B:=by intro zq;exact QhG (sz:=4) hS func91 rfl rfl Yb Yb rfl rfl Ym Yh zq.1):=x.s k
def kC(k:ZJ A B:=by intro zq;first|exact Qj rfl (fun _ ⟨_,hS⟩=>Qf hS rfl rfl Ym Yh) rfl zq.1|exact Qj rfl (fun _ ⟨_,hS⟩=>Qm rfl rfl YV) rfl zq.1):=x.s k
def iW(k:ZJ A B:=by intro zq;exact uV q _ _ _ zq.1 ⟨rfl,E++[x],by rw[hE];simp,rfl,Qha pO hx⟩ YU Yc):=x.s k
def iX(k:ZJ A B:=by intro zq;exact(Qnx vars k1 n1 s1 ar _ _ (oJ.below hX) pS).mono zq.1):=x.s k
def m5(k:ZJ A B:=by intro zq;exact QH (St _ _ _ _) 11 ((0,true)::(1,true)::(2,true)::(3,true)::(4,true)::(5,true)::(6,true)::(7,true)::(8,true)::(9,true)::(10,true)::[]) Yc Yc (hS.drew) zq.1):=x.s k
def kD(k:ZJ A B:=by intro zq;exact QH (St _ _ _ _) 7 ((0,true)::(1,true)::(2,true)::(3,true)::(4,true)::(5,true)::(6,true)::[]) Yc Yc (hS.drew) zq.1):=x.s k
def eP(k:ZJ A B:=by intro zq;exact XE (Qtm c _) zq.1):=x.s k
def f2(k:ZJ A B:=by intro zq;exact Qd func19 rfl Yb zq.1):=x.s k
def m6(k:ZJ A B:=by intro zq;exact QH (St M w0 _ _) 6 ((0,true)::(1,true)::(2,true)::(3,true)::(4,true)::(5,true)::[]) Yc Yc (hS.drew) zq.1):=x.s k
def m7(k:ZJ A B:=by intro zq;exact⟨va,B3,V3,O4,O5,rfl,Gi,zq.1,wL,hS⟩):=x.s k
def dZ(k:ZJ A B:=by intro zq;exact RD (cells:=[_,_,_,_]) hS (.cons Yb .nil) rfl rfl zq.1):=x.s k
def aD(k:ZJ A B:=by intro zq;exact Qyw zq.1):=x.s k
def q(k:ZJ A B:=by intro zq;first|exact Qa (Qk4 rfl Yb) rfl zq.1|exact Qa (Qk5 rfl Yb) rfl zq.1):=x.s k
def m8(k:ZJ A B:=by intro zq;first|exact Qj rfl (fun _ hS=>Qf hS rfl rfl Ym Yh) rfl zq.1|exact Qj rfl (fun _ hS=>Qm rfl rfl Yar) rfl zq.1):=x.s k
def m9(k:ZJ A B:=by intro zq;first|exact Qe rfl (fun _ hS=>Qf hS rfl rfl Ym Yh) rfl zq.1|exact Qe rfl (fun _ hS=>Qm rfl rfl YZ) rfl zq.1):=x.s k
def nA(k:ZJ A B:=by intro zq;exact Qa (QD (cells:=[_,_]) (.cons Yb .nil) rfl) rfl zq.1):=x.s k
def b7(k:ZJ A B:=by intro zq;first|exact Qa (Qf hS rfl rfl Ym Yh) rfl zq.1|exact Qa (Qm rfl rfl (by first|assumption|exact(qN sB _ hS).1|exact(qN sB _ hS).2.1|exact(qN sB _ hS).2.2.1|exact(qN sB _ hS).2.2.2.1|exact(qN sB _ hS).2.2.2.2.1|exact(qN sB _ hS).2.2.2.2.2|exact hS.cell0 Ye|exact Qt hS|exact Qu hS)) rfl zq.1):=x.s k
def iY(k:ZJ A B:=by intro zq;exact Qe rfl (fun _ hS=>QtY rfl rfl Ya Ya) rfl zq.1):=x.s k
def nB(k:ZJ A B:=by intro zq;first|exact Qa (Qb (k:=2) hS rfl rfl rfl Ym Yh) rfl zq.1|exact Qa (Qb (k:=2) hS rfl rfl rfl Ym Ye) rfl zq.1|exact Qa (M3 rfl rfl rfl Yt Yt) rfl zq.1):=x.s k
def hR(k:ZJ A B:=by intro zq;exact⟨zq.1,yK.trans (oZ.mono yK.size)⟩):=x.s k
def hS(k:ZJ A B:=by intro zq;exact Qd func166 rfl Yb zq.1):=x.s k
def eB(k:ZJ A B:=by intro zq;exact QwF zq.1):=x.s k
def fN(k:ZJ A B:=by intro zq;exact M4 (by first|exact hS|exact hS.drop|exact hS.drop.drop|exact hS.drop.drop.drop|exact hS.unlearn|exact hS.unlearn.drop|exact hS.unlearn.drop.drop|exact hS.forget zH|exact hS.drop.forget zH|exact hS.forget (fun φ h=>rI φ (zH φ h))|exact hS.drop.forget (fun φ h=>rI φ (zH φ h))) zq.1):=x.s k
def hT(k:ZJ A B:=by intro zq;exact UF (cs:=[_]) hS rfl rfl rfl zq.1):=x.s k
def hU(k:ZJ A B:=by intro zq;exact QH (St _ _ _ _) 22 ((0,true)::(1,true)::(2,true)::(3,true)::(4,true)::(5,true)::(6,true)::(7,true)::(8,true)::(9,true)::(10,true)::(11,true)::(12,true)::(13,true)::(14,true)::(15,true)::(16,true)::(17,true)::(18,true)::(19,true)::(20,true)::(21,true)::[]) Yc Yc (hS.drew) zq.1):=x.s k
def g(k:ZJ A B:=by intro zq;exact Qa (QgF Yb) rfl zq.1):=x.s k
def e7(k:ZJ A B:=by intro zq;exact Qd func113 rfl Yb zq.1):=x.s k
def iZ(k:ZJ A B:=by intro zq;exact Qd func100 rfl Yb zq.1):=x.s k
def kE(k:ZJ A B:=by intro zq;exact Qe rfl (fun _ hS=>Qi (off:=6) rfl rfl) rfl zq.1):=x.s k
def nC(k:ZJ A B:=by intro zq;first|exact Qa (Qf hS rfl rfl Ym Yh) rfl zq.1|exact Qa (Qm rfl rfl (by first|assumption|exact tT _ hS|exact AP _ hS|exact hS.cell0 Ye|exact Qt hS|exact Qu hS)) rfl zq.1):=x.s k
def f3(k:ZJ A B:=by intro zq;exact Qd8 (sz:=4) hS func143 rfl rfl Yb rfl rfl Ym Yh zq.1):=x.s k
def i0(k:ZJ A B:=by intro zq;exact Qd func18 rfl Yb zq.1):=x.s k
def i1(k:ZJ A B:=by intro zq;exact Qa (QfQ rfl rfl rfl Ya Y0) rfl zq.1):=x.s k
def hV(k:ZJ A B:=by intro zq;exact LP func27 rfl Yb Yb zq.1):=x.s k
def hW(k:ZJ A B:=by intro zq;exact QQ func62 rfl ntmps62 rfl zq.1):=x.s k
def kF(k:ZJ A B:=by intro zq;exact Qa (Qi (off:=10) rfl rfl) rfl zq.1):=x.s k
def nD(k:ZJ A B:=by intro zq;exact XE (Qoa x a _ ha ⟨_,hl.choose_spec.1⟩ ⟨_,tH.choose_spec.1⟩ oG ⟨_,F,oU,oK,hS⟩) zq.1):=x.s k
def i2(k:ZJ A B:=by intro zq;exact QH (St M w0 _ _) 12 ((0,true)::(1,true)::(2,true)::(3,true)::(5,true)::(6,true)::(7,true)::(8,true)::(9,true)::(4,false)::(10,false)::(11,true)::[]) Yc Yc (hS.drew) zq.1):=x.s k
def d4(k:ZJ A B:=by intro zq;exact Qa (Qi (off:=4) rfl rfl) rfl zq.1):=x.s k
def gZ(k:ZJ A B:=by intro zq;exact XE (OQ pb pA X.length pc q p 5 _ Ya (Vh _ hS)) zq.1):=x.s k
def l(k:ZJ A B:=by intro zq;first|exact Qa (Qb4 rfl rfl) rfl zq.1|exact Qa (Qht rfl rfl YaE) rfl zq.1|exact Qa (Qf9 rfl rfl Ya) rfl zq.1|exact Qa (rfl) rfl zq.1):=x.s k
def eX(k:ZJ A B:=by intro zq;exact PT (by first|exact hS.only1|exact hS.drop.only1|exact hS.unlearn.only1|exact hS.unlearn.drop.only1) zq.1):=x.s k
def kG(k:ZJ A B:=by intro zq;exact Qd func215 rfl Yb zq.1):=x.s k
def i3(k:ZJ A B:=by intro zq;exact Qa (QD (cells:=[_,_,_]) (.cons Yb (.cons Yb .nil)) rfl) rfl zq.1):=x.s k
def nE(k:ZJ A B:=by intro zq;exact Qh func66 rfl ntmps66 rfl zq.1):=x.s k
def i4(k:ZJ A B:=by intro zq;exact QhG (sz:=2) hS func90 rfl rfl Yb Yb rfl rfl Ym Yh zq.1):=x.s k
def nF(k:ZJ A B:=by intro zq;exact XE (hcall _ hL sT tH ha hP Ya Ya Ya Ya Ya hS) zq.1):=x.s k
def eY(k:ZJ A B:=by intro zq;exact Qfi func105 rfl Yb Yb Yb zq.1):=x.s k
def nG(k:ZJ A B:=by intro zq;first|exact Q3 rfl rfl rfl (fun _ hS=>QnD rfl rfl) rfl zq.1|exact Q3 rfl rfl rfl (fun _ hS=>QqQ rfl rfl Ya Ya Ya) rfl zq.1|exact Q3 rfl rfl rfl (fun _ hS=>QqR rfl rfl Ya Ya) rfl zq.1):=x.s k
def i5(k:ZJ A B:=by intro zq;exact Qmt (u:=x) hS Yb (by rfl) rfl rfl rfl (QG.own (sp:=[]) (hS.own (_,_) (.head _)) rfl (XF _)) xZ (XK [_,_] Os _) (by rw[XG,WJ];omega) rfl zq.1):=x.s k
def hX(k:ZJ A B:=by intro zq;exact LP func21 rfl Yb Yb zq.1):=x.s k
def cM(k:ZJ A B:=by intro zq;exact Qe rfl (fun _ hS=>Qi (off:=1) rfl rfl) rfl zq.1):=x.s k
def nH(k:ZJ A B:=by intro zq;exact Qfy hS rfl Yb rfl rfl (.tail .head) (QiH (EU D') [r0,r1,r2,r3] (AN u2) rs _ Ya rfl) (.tail .head) zq.1):=x.s k
def aG(k:ZJ A B:=by intro zq;exact M4 (by first|exact hS|exact hS.drop|exact hS.drop.drop|exact hS.drop.drop.drop|exact hS.unlearn|exact hS.unlearn.drop|exact hS.unlearn.drop.drop) zq.1):=x.s k
def nI(k:ZJ A B:=by intro zq;first|exact Qe rfl (fun _ hS=>Qf hS rfl rfl Ym Yh) rfl zq.1|exact Qe rfl (fun _ hS=>Qm rfl rfl (by first|assumption|exact rE _ hS|exact Bz _ hS|exact hS.cell0 Ye|exact Qt hS|exact Qu hS)) rfl zq.1):=x.s k
def nJ(k:ZJ A B:=by intro zq;exact EQ (sz:=1) (bts:=8) hS Yb rfl rfl rfl rfl (oE) rfl rfl (.cons _ (XK [_] O _)) Ya Ya rfl zq.1):=x.s k
def hY(k:ZJ A B:=by intro zq;first|exact Qe rfl (fun _ hS=>Qla rfl rfl Ye) rfl zq.1|exact Qe rfl (fun _ hS=>Qlb rfl rfl Ye) rfl zq.1|exact Qe rfl (fun _ hS=>Qjz rfl rfl) rfl zq.1|exact Qe rfl (fun _ hS=>rfl) rfl zq.1):=x.s k
def bS(k:ZJ A B:=by intro zq;exact QlN rfl zq.1):=x.s k
def a(k:ZJ A B:=by intro zq;exact⟨_,rfl,zq.1⟩):=x.s k
def e8(k:ZJ A B:=by intro zq;exact LP func131 rfl Yb Yb zq.1):=x.s k
def i6(k:ZJ A B:=by intro zq;exact XE (Qcp c _) zq.1):=x.s k
def e9(k:ZJ A B:=by intro zq;exact Qd func62 rfl Yb zq.1):=x.s k
def fO(k:ZJ A B:=by intro zq;exact Qa (Qi (off:=9) rfl rfl) rfl zq.1):=x.s k
def eL(k:ZJ A B:=by intro zq;exact XE (Cz _ _ hS.swap) zq.1):=x.s k
def nK(k:ZJ A B:=by intro zq;first|exact Qa (Qe0 (sz:=4) rfl rfl rfl rfl Ya Ya Ya) rfl zq.1|exact Qa (Qcs (sz:=4) rfl rfl rfl rfl Ya Ya) rfl zq.1):=x.s k
def nL(k:ZJ A B:=by intro zq;exact Qh func214 rfl ntmps214 rfl zq.1):=x.s k
def c6(k:ZJ A B:=by intro zq;exact XE (UI E y _ hE.rd Vi hE.ok hS) zq.1):=x.s k
def g0(k:ZJ A B:=by intro zq;exact XE (Qru h A B c d _ (hS.und hH)) zq.1):=x.s k
def F(k:ZJ A B:=by intro zq;exact P4 (S8 Yc (QrM Yb)) rfl zq.1):=x.s k
def nM(k:ZJ A B:=by intro zq;exact XE (QiC BF _ Yc Qcp r _ Ya) zq.1):=x.s k
def U(k:ZJ A B:=by intro zq;exact QwO rfl rfl rfl zq.1):=x.s k
def nN(k:ZJ A B:=by intro zq;exact Qa (Qpw (ex:=Extern.AbiNoEscape.same) (QrM rfl) func164 Yc Yc Yc Yc (Lib.run_noEscape w _)) rfl zq.1):=x.s k
def f4(k:ZJ A B:=by intro zq;first|exact Qe rfl (fun _ hS=>Qb4 rfl rfl) rfl zq.1|exact Qe rfl (fun _ hS=>Qht rfl rfl YaE) rfl zq.1|exact Qe rfl (fun _ hS=>Qf9 rfl rfl Ya) rfl zq.1|exact Qe rfl (fun _ hS=>rfl) rfl zq.1):=x.s k
def nO(k:ZJ A B:=by intro zq;exact LP func66 rfl Yb Yb zq.1):=x.s k
def kH(k:ZJ A B:=by intro zq;first|exact Qe rfl (fun _ hS=>Qf hS rfl rfl Ym Yh) rfl zq.1|exact Qe rfl (fun _ hS=>Qm rfl rfl Yat) rfl zq.1):=x.s k
def hZ(k:ZJ A B:=by intro zq;first|exact Qa (Qf hS rfl rfl Ym Yh) rfl zq.1|exact Qa (Qm rfl rfl (by first|assumption|exact tT _ hS|exact Jm _ hS|exact Xc _ hS|exact hS.cell0 Ye|exact Qt hS|exact Qu hS)) rfl zq.1):=x.s k
def kI(k:ZJ A B:=by intro zq;exact Qe rfl (fun _ hS=>Qi (off:=5) rfl rfl) rfl zq.1):=x.s k
def C(k:ZJ A B:=by intro zq;exact Qa (QtY rfl rfl Ya Ya) rfl zq.1):=x.s k
def nP(k:ZJ A B:=by intro zq;exact QH (St M w0 _ _) 9 ((0,true)::(1,true)::(2,true)::(3,true)::(4,true)::(5,true)::(6,true)::(7,true)::(8,true)::[]) Yc Yc (hS.drew) zq.1):=x.s k
def kJ(k:ZJ A B:=by intro zq;first|exact Qj rfl (fun _ hS=>Qf hS rfl rfl Ym Yh) rfl zq.1|exact Qj rfl (fun _ hS=>Qm rfl rfl Y6) rfl zq.1):=x.s k
def nQ(k:ZJ A B:=by intro zq;exact Qa (QfT rfl (Lib.run_to_unsafe (P:=prog) w (t:=118) ⟨b,0,none⟩ rfl rfl rfl (by decide) Mx (by simp))) rfl zq.1):=x.s k
def cF(k:ZJ A B:=by intro zq;exact Qa (Q0 (sz:=4) rfl rfl rfl rfl Ya Ya) rfl zq.1):=x.s k
def f5(k:ZJ A B:=by intro zq;first|exact Qa (Qf hS rfl rfl Ym Yh) rfl zq.1|exact Qa (Qm rfl rfl YZ) rfl zq.1):=x.s k
def kK(k:ZJ A B:=by intro zq;exact Qa (QiE rfl rfl Ye) rfl zq.1):=x.s k
def kL(k:ZJ A B:=by intro zq;exact Qj rfl (fun _ hS=>ZV rfl) rfl zq.1):=x.s k
def fP(k:ZJ A B:=by intro zq;exact XE (QdX c _) zq.1):=x.s k
def fA(k:ZJ A B:=by intro zq;exact Qa (Qwx rfl rfl Ye) rfl zq.1):=x.s k
def d5(k:ZJ A B:=by intro zq;exact Qvc rfl zq.1):=x.s k
def nR(k:ZJ A B:=by intro zq;exact Qg func40 rfl ntmps40 rfl zq.1):=x.s k
def nS(k:ZJ A B:=by intro zq;first|exact Qa (Qf hS rfl rfl Ym Yh) rfl zq.1|exact Qa (Qm rfl rfl Yar) rfl zq.1):=x.s k
def i7(k:ZJ A B:=by intro zq;exact XE (QdX x _) zq.1):=x.s k
def kM(k:ZJ A B:=by intro zq;exact Qe rfl (fun _ hS=>Qi (off:=4) rfl rfl) rfl zq.1):=x.s k
def nT(k:ZJ A B:=by intro zq;first|exact Qa (Qb (k:=4) hS rfl rfl rfl Ym Yh) rfl zq.1|exact Qa (Qb (k:=4) hS rfl rfl rfl Ym Ye) rfl zq.1|exact Qa (Q7 rfl rfl rfl YG YG YG YG) rfl zq.1):=x.s k
def d6(k:ZJ A B:=by intro zq;first|exact Qa (Qf hS rfl rfl Ym Yh) rfl zq.1|exact Qa (Qm rfl rfl (by first|assumption|exact Jm _ hS|exact hS.cell0 Ye|exact Qt hS|exact Qu hS)) rfl zq.1):=x.s k
def h0(k:ZJ A B:=by intro zq;exact RD (cells:=[_,_]) hS (.cons Yb .nil) rfl rfl zq.1):=x.s k
def kN(k:ZJ A B:=by intro zq;exact Qd func223 rfl Yb zq.1):=x.s k
def cX(k:ZJ A B:=by intro zq;first|exact Qa (Qf hS rfl rfl Ym Yh) rfl zq.1|exact Qa (Qm rfl rfl YR) rfl zq.1):=x.s k
def fB(k:ZJ A B:=by intro zq;exact Qj rfl (fun _ hS=>Qi (off:=0) rfl rfl) rfl zq.1):=x.s k
def fC(k:ZJ A B:=by intro zq;first|exact Qa (Qb (k:=2) hS rfl rfl rfl Ym Yh) rfl zq.1|exact Qa (Qb (k:=2) hS rfl rfl rfl Ym Ye) rfl zq.1|exact Qa (M3 rfl rfl rfl Yx Yx) rfl zq.1):=x.s k
def i8(k:ZJ A B:=by intro zq;first|exact Qa (Qf hS rfl rfl Ym Yh) rfl zq.1|exact Qa (Qm rfl rfl (by first|assumption|exact hk _ hS|exact Xd _ hS (by simp)|exact hS.cell0 Ye|exact Qt hS|exact Qu hS)) rfl zq.1):=x.s k
def kO(k:ZJ A B:=by intro zq;exact Qd func140 rfl Yb zq.1):=x.s k
def j(k:ZJ A B:=by intro zq;exact QuO rfl rfl zq.1):=x.s k
def nU(k:ZJ A B:=by intro zq;exact XE (UI E z _ hE.rd sY hE.ok hS) zq.1):=x.s k
def kP(k:ZJ A B:=by intro zq;exact M4 (by first|exact⟨_,hS⟩|exact⟨_,hS.drop⟩|exact⟨_,hS.forget pF⟩|exact⟨_,hS.drop.forget pF⟩) zq.1):=x.s k
def i9(k:ZJ A B:=by intro zq;exact QN func107 rfl zq.1):=x.s k
def nV(k:ZJ A B:=by intro zq;first|exact Qe rfl (fun _ hS=>Qf hS rfl rfl Ym Yh) rfl zq.1|exact Qe rfl (fun _ hS=>Qm rfl rfl Yad) rfl zq.1):=x.s k
def jA(k:ZJ A B:=by intro zq;first|exact Qe rfl (fun _ hS=>Qf hS rfl rfl Ym Yh) rfl zq.1|exact Qe rfl (fun _ hS=>Qm rfl rfl Y4) rfl zq.1):=x.s k
def g1(k:ZJ A B:=by intro zq;first|exact Qa (Qb (k:=6) hS rfl rfl rfl Ym Yh) rfl zq.1|exact Qa (Qb (k:=6) hS rfl rfl rfl Ym Ye) rfl zq.1|exact Qa (QgG rfl rfl rfl Yr Yr Yr Yr Yr Yr) rfl zq.1):=x.s k
def nW(k:ZJ A B:=by intro zq;exact Qa (QZ (sz:=1) rfl rfl rfl rfl Ya Ya) rfl zq.1):=x.s k
def eQ(k:ZJ A B:=by intro zq;first|exact Qa (Qf hS rfl rfl Ym Yh) rfl zq.1|exact Qa (Qm rfl rfl (by first|assumption|exact hwc _ hS.ext|exact hS.cell0 Ye|exact Qt hS|exact Qu hS)) rfl zq.1):=x.s k
def g2(k:ZJ A B:=by intro zq;exact LP func12 rfl Yb Yb zq.1):=x.s k
def aI(k:ZJ A B:=by intro zq;exact Qa (Qi (off:=0) rfl rfl) rfl zq.1):=x.s k
def eZ(k:ZJ A B:=by intro zq;first|exact Qe rfl (fun _ hS=>Qf hS rfl rfl Ym Yh) rfl zq.1|exact Qe rfl (fun _ hS=>Qm rfl rfl YJ) rfl zq.1):=x.s k
def nX(k:ZJ A B:=by intro zq;exact QN func71 rfl zq.1):=x.s k
def nY(k:ZJ A B:=by intro zq;exact QlD hS Yb rfl rfl rfl rfl hB VP.symm Ya rfl zq.1):=x.s k
def h1(k:ZJ A B:=by intro zq;exact XE (UI E p.1 _ hE.rd h1 hE.ok hS) zq.1):=x.s k
def kQ(k:ZJ A B:=by intro zq;exact Qd func81 rfl Yb zq.1):=x.s k
def nZ(k:ZJ A B:=by intro zq;exact Qe rfl (fun _ hS=>QD (cells:=[_,_,_,_]) (.cons Yb (.cons Yb .nil)) rfl) rfl zq.1):=x.s k
def fQ(k:ZJ A B:=by intro zq;first|exact Qe rfl (fun _ hS=>Qk4 rfl Yb) rfl zq.1|exact Qe rfl (fun _ hS=>Qk5 rfl Yb) rfl zq.1):=x.s k
def f6(k:ZJ A B:=by intro zq;first|exact Qa (Qf hS rfl rfl Ym Yh) rfl zq.1|exact Qa (Qm rfl rfl YV) rfl zq.1):=x.s k
def aN(k:ZJ A B:=by intro zq;first|exact Qe rfl (fun _ hS=>Qf hS rfl rfl Ym Yh) rfl zq.1|exact Qe rfl (fun _ hS=>Qm rfl rfl Y6) rfl zq.1):=x.s k
def bM(k:ZJ A B:=by intro zq;exact P4 (QnH rfl Yc (QrM Yb)) rfl zq.1):=x.s k
def n0(k:ZJ A B:=by intro zq;exact XE (QrE n.toNat c A _ Ya hS) zq.1):=x.s k
def fD(k:ZJ A B:=by intro zq;first|exact Qa (Qb (k:=6) hS rfl rfl rfl Ym Yh) rfl zq.1|exact Qa (Qb (k:=6) hS rfl rfl rfl Ym Ye) rfl zq.1|exact Qa (QgG rfl rfl rfl Yw Yw Yw Yw Yw Yw) rfl zq.1):=x.s k
def f7(k:ZJ A B:=by intro zq;exact Q3 rfl rfl rfl (fun _ hS=>ZV rfl) rfl zq.1):=x.s k
def kR(k:ZJ A B:=by intro zq;exact Qg func203 rfl ntmps203 rfl zq.1):=x.s k
def n1(k:ZJ A B:=by intro zq;exact K7 hS rfl Yb rfl rfl (.tail .head) (by rw[XQ];exact qT) (.tail .head) zq.1):=x.s k
def d7(k:ZJ A B:=by intro zq;exact Qd func186 rfl Yb zq.1):=x.s k
def n2(k:ZJ A B:=by intro zq;first|exact Qa (QnD rfl rfl) rfl zq.1|exact Qa (QqQ rfl rfl Ya Ya Ya) rfl zq.1|exact Qa (QqR rfl rfl Ya Ya) rfl zq.1):=x.s k
def jB(k:ZJ A B:=by intro zq;exact⟨_,O5,rfl,zq.1,hS⟩):=x.s k
def f8(k:ZJ A B:=by intro zq;exact Q3 rfl rfl rfl (fun _ hS=>QgF Yb) rfl zq.1):=x.s k
def kS(k:ZJ A B:=by intro zq;exact Qd func96 rfl Yb zq.1):=x.s k
def V(k:ZJ A B:=by intro zq;first|exact Qa (Qla rfl rfl Ye) rfl zq.1|exact Qa (Qlb rfl rfl Ye) rfl zq.1|exact Qa (Qjz rfl rfl) rfl zq.1|exact Qa (rfl) rfl zq.1):=x.s k
def dD(k:ZJ A B:=by intro zq;first|exact Qa (Qk6 rfl rfl Ye) rfl zq.1|exact Qa (Qk7 rfl rfl Ye) rfl zq.1|exact Qa (Qjs rfl rfl) rfl zq.1|exact Qa (rfl) rfl zq.1):=x.s k
def n3(k:ZJ A B:=by intro zq;exact Qa (QD (cells:=[_,_,_,_]) (.cons Yb (.cons Yb (.cons Yb (.cons Yb .nil)))) rfl) rfl zq.1):=x.s k
def kT(k:ZJ A B:=by intro zq;exact Qe rfl (fun _ hS=>Qi (off:=10) rfl rfl) rfl zq.1):=x.s k
def c7(k:ZJ A B:=by intro zq;exact QsQ zq.1):=x.s k
def n4(k:ZJ A B:=by intro zq;exact QH (St _ w0 [_,_] []) 10 ((0,true)::(1,true)::(2,true)::(3,true)::(4,true)::(5,true)::(6,false)::(7,false)::(8,true)::(9,true)::[]) Yc Yc (hS.drew.bare2) zq.1):=x.s k
def eC(k:ZJ A B:=by intro zq;exact EQ (sz:=1) (bts:=16) hS Yb rfl rfl rfl rfl (hR) rfl rfl (List.Perm.refl _) Ya Ya rfl zq.1):=x.s k
def aP(k:ZJ A B:=by intro zq;exact Qa (Qme rfl rfl rfl Ya (by first|rfl|assumption)) rfl zq.1):=x.s k
def n5(k:ZJ A B:=by intro zq;exact K1 (St _ _ _ _) 12 (.read 0 (.read 1 (.read 2 (.read 3 (.read 5 (.read 6 (.read 7 (.read 8 (.pick 4 (.pick 9 (.pick 10 (.pick 11 .tail .none) (.pick 11 (.pick 10 .tail .none) .none)) (.pick 10 (.pick 9 (.pick 11 .tail .none) (.pick 11 (.pick 9 .tail .none) .none)) (.pick 11 (.pick 9 (.pick 10 .tail .none) (.pick 10 (.pick 9 .tail .none) .none)) .none))) (.pick 10 (.pick 4 (.pick 9 (.pick 11 .tail .none) (.pick 11 (.pick 9 .tail .none) .none)) (.pick 11 (.pick 4 (.pick 9 .tail .none) .none) .none)) (.pick 11 (.pick 4 (.pick 9 (.pick 10 .tail .none) (.pick 10 (.pick 9 .tail .none) .none)) (.pick 10 (.pick 4 (.pick 9 .tail .none) .none) .none)) .none))))))))))) Yc Yc hS.drew zq.1):=x.s k
def f9(k:ZJ A B:=by intro zq;exact Qa (Q0 (sz:=6) rfl rfl rfl rfl Ya Ya) rfl zq.1):=x.s k
def jC(k:ZJ A B:=by intro zq;first|exact Q3 rfl rfl rfl (fun _ hS=>Qf hS rfl rfl Ym Yh) rfl zq.1|exact Q3 rfl rfl rfl (fun _ hS=>Qm rfl rfl Y6) rfl zq.1):=x.s k
def e0(k:ZJ A B:=by intro zq;exact XE (UI E x _ hE.rd Vj hE.ok hS) zq.1):=x.s k
def n6(k:ZJ A B:=by intro zq;exact Qj rfl (fun _ ⟨_,hS⟩=>Q0 (sz:=4) rfl rfl rfl rfl Ya Ya) rfl zq.1):=x.s k
def jD(k:ZJ A B:=by intro zq;exact Qa (Qmf rfl rfl rfl) rfl zq.1):=x.s k
def fR(k:ZJ A B:=by intro zq;exact PT (by first|exact hS.bare1|exact hS.drop.bare1|exact hS.drop.drop.bare1) zq.1):=x.s k
def kU(k:ZJ A B:=by intro zq;exact Qd func220 rfl Yb zq.1):=x.s k
def n7(k:ZJ A B:=by intro zq;exact Qd func65 rfl Yb zq.1):=x.s k
def jE(k:ZJ A B:=by intro zq;first|exact Qa (Qf hS rfl rfl Ym Yh) rfl zq.1|exact Qa (Qm rfl rfl Y4) rfl zq.1):=x.s k
def h2(k:ZJ A B:=by intro zq;exact Qa (QZ (sz:=4) rfl rfl rfl rfl Ya Ya) rfl zq.1):=x.s k
def n8(k:ZJ A B:=by intro zq;first|exact Qe rfl (fun _ hS=>Qf hS rfl rfl Ym Yh) rfl zq.1|exact Qe rfl (fun _ hS=>Qm rfl rfl YR) rfl zq.1):=x.s k
def h3(k:ZJ A B:=by intro zq;exact Qd func119 rfl Yb zq.1):=x.s k
def p(k:ZJ A B:=by intro zq;exact Zq.E.d8.1 zq.1):=x.s k
def c(k:ZJ A B:=by intro zq;exact Zq.d1.b.1 zq.1):=x.s k
def h(k:ZJ A B:=by intro zq;exact Zq.p.g.1 zq.1):=x.s k
def t(k:ZJ A B:=by intro zq;exact Zq.g.j.1 zq.1):=x.s k
def m(k:ZJ A B:=by intro zq;exact Zq.E.h.1 zq.1):=x.s k
def gA(k:ZJ A B:=by intro zq;exact Zq.b.bS.1 zq.1):=x.s k
def D(k:ZJ A B:=by intro zq;exact Zq.gA.aW.1 zq.1):=x.s k
def cG(k:ZJ A B:=by intro zq;exact Zq.U.U.1 zq.1):=x.s k
def v(k:ZJ A B:=by intro zq;exact Zq.b.cD.1 zq.1):=x.s k
def e(k:ZJ A B:=by intro zq;exact Zq.p.c.1 zq.1):=x.s k
def K(k:ZJ A B:=by intro zq;exact Zq.d1.c.1 zq.1):=x.s k
def i(k:ZJ A B:=by intro zq;exact Zq.h.g.1 zq.1):=x.s k
def bT(k:ZJ A B:=by intro zq;exact Zq.c.bS.1 zq.1):=x.s k
def a2(k:ZJ A B:=by intro zq;exact Zq.b.E.1 zq.1):=x.s k
def bD(k:ZJ A B:=by intro zq;exact Zq.p.aI.1 zq.1):=x.s k
def n(k:ZJ A B:=by intro zq;exact Zq.t.t.1 zq.1):=x.s k
def aS(k:ZJ A B:=by intro zq;exact Zq.g.cG.1 zq.1):=x.s k
def b8(k:ZJ A B:=by intro zq;exact Zq.E.c7.1 zq.1):=x.s k
def n9(k:ZJ A B:=by intro zq;exact Zq.p.I.a2.1 zq.1):=x.s k
def oA(k:ZJ A B:=by intro zq;exact Zq.g.b.1 zq.1):=x.s k
def u(k:ZJ A B:=by intro zq;exact Zq.d8.g.1 zq.1):=x.s k
def aH(k:ZJ A B:=by intro zq;exact Zq.m.O.1 zq.1):=x.s k
def oB(k:ZJ A B:=by intro zq;exact Zq.p.l.1 zq.1):=x.s k
def aT(k:ZJ A B:=by intro zq;exact Zq.h.O.1 zq.1):=x.s k
def w(k:ZJ A B:=by intro zq;exact Zq.p.d3.1 zq.1):=x.s k
def dW(k:ZJ A B:=by intro zq;exact Zq.E.bD.1 zq.1):=x.s k
def H(k:ZJ A B:=by intro zq;exact Zq.q.v.1 zq.1):=x.s k
def eR(k:ZJ A B:=by intro zq;exact Zq.aW.b8.1 zq.1):=x.s k
def M(k:ZJ A B:=by intro zq;exact Zq.c.m.1 zq.1):=x.s k
def dQ(k:ZJ A B:=by intro zq;exact Zq.c.cD.1 zq.1):=x.s k
def aU(k:ZJ A B:=by intro zq;exact Zq.a5.eF.1 zq.1):=x.s k
def N(k:ZJ A B:=by intro zq;exact Zq.q.D.1 zq.1):=x.s k
def dR(k:ZJ A B:=by intro zq;exact Zq.oB.bT.1 zq.1):=x.s k
def P(k:ZJ A B:=by intro zq;exact Zq.j.t.1 zq.1):=x.s k
def h4(k:ZJ A B:=by intro zq;exact Zq.d8.C.oA.1 zq.1):=x.s k
def a8(k:ZJ A B:=by intro zq;exact Zq.n9.cD.eR.1 zq.1):=x.s k
def h5(k:ZJ A B:=by intro zq;exact Zq.bS.d5.1 zq.1):=x.s k
def aZ(k:ZJ A B:=by intro zq;exact Zq.aX.h4.1 zq.1):=x.s k
def oC(k:ZJ A B:=by intro zq;exact Zq.iR.iR.1 zq.1):=x.s k
def W(k:ZJ A B:=by intro zq;exact Zq.n9.h5.1 zq.1):=x.s k
def a6(k:ZJ A B:=by intro zq;exact Zq.Y.y.1 zq.1):=x.s k
def e1(k:ZJ A B:=by intro zq;exact Zq.g.oC.1 zq.1):=x.s k
def bB(k:ZJ A B:=by intro zq;exact Zq.aS.cG.1 zq.1):=x.s k
def fE(k:ZJ A B:=by intro zq;exact Zq.j.y.1 zq.1):=x.s k
def Z(k:ZJ A B:=by intro zq;exact Zq.h.F.1 zq.1):=x.s k
def aA(k:ZJ A B:=by intro zq;exact Zq.m.g.1 zq.1):=x.s k
def aB(k:ZJ A B:=by intro zq;exact Zq.h.c.1 zq.1):=x.s k
def aE(k:ZJ A B:=by intro zq;exact Zq.L.y.1 zq.1):=x.s k
def aF(k:ZJ A B:=by intro zq;exact Zq.h.f.1 zq.1):=x.s k
def g3(k:ZJ A B:=by intro zq;exact Zq.oA.c7.1 zq.1):=x.s k
def cN(k:ZJ A B:=by intro zq;exact Zq.q.bT.1 zq.1):=x.s k
def aJ(k:ZJ A B:=by intro zq;exact Zq.a.c.1 zq.1):=x.s k
def aK(k:ZJ A B:=by intro zq;exact Zq.fE.j.1 zq.1):=x.s k
def dJ(k:ZJ A B:=by intro zq;exact Zq.b.c7.1 zq.1):=x.s k
def aL(k:ZJ A B:=by intro zq;exact Zq.f1.f1.1 zq.1):=x.s k
def aM(k:ZJ A B:=by intro zq;exact Zq.a0.R.1 zq.1):=x.s k
def aO(k:ZJ A B:=by intro zq;exact Zq.g.g.1 zq.1):=x.s k
def aQ(k:ZJ A B:=by intro zq;exact Zq.aC.g3.1 zq.1):=x.s k
def h6(k:ZJ A B:=by intro zq;exact Zq.eB.d.1 zq.1):=x.s k
def aY(k:ZJ A B:=by intro zq;exact Zq.p.K.1 zq.1):=x.s k
def gB(k:ZJ A B:=by intro zq;exact Zq.c.dW.1 zq.1):=x.s k
def a1(k:ZJ A B:=by intro zq;exact Zq.g.C.1 zq.1):=x.s k
def a3(k:ZJ A B:=by intro zq;exact Zq.d1.K.1 zq.1):=x.s k
def a4(k:ZJ A B:=by intro zq;exact Zq.aG.h6.1 zq.1):=x.s k
def a9(k:ZJ A B:=by intro zq;exact Zq.q.c.1 zq.1):=x.s k
def fF(k:ZJ A B:=by intro zq;exact Zq.p.V.1 zq.1):=x.s k
def eM(k:ZJ A B:=by intro zq;exact Zq.aW.c7.1 zq.1):=x.s k
def bE(k:ZJ A B:=by intro zq;exact Zq.gA.d5.1 zq.1):=x.s k
def bF(k:ZJ A B:=by intro zq;exact Zq.X.D.1 zq.1):=x.s k
def bG(k:ZJ A B:=by intro zq;exact Zq.j.q.1 zq.1):=x.s k
def bL(k:ZJ A B:=by intro zq;exact Zq.O.aI.1 zq.1):=x.s k
def g4(k:ZJ A B:=by intro zq;exact Zq.gB.y.1 zq.1):=x.s k
def bN(k:ZJ A B:=by intro zq;exact Zq.aT.aI.1 zq.1):=x.s k
def bO(k:ZJ A B:=by intro zq;exact Zq.c.aX.1 zq.1):=x.s k
def bP(k:ZJ A B:=by intro zq;exact Zq.aC.S.1 zq.1):=x.s k
def bQ(k:ZJ A B:=by intro zq;exact Zq.aC.b3.1 zq.1):=x.s k
def bU(k:ZJ A B:=by intro zq;exact Zq.aH.aI.1 zq.1):=x.s k
def bV(k:ZJ A B:=by intro zq;exact Zq.e.m.1 zq.1):=x.s k
def bW(k:ZJ A B:=by intro zq;exact Zq.j.X.1 zq.1):=x.s k
def bX(k:ZJ A B:=by intro zq;exact Zq.aS.U.1 zq.1):=x.s k
def bY(k:ZJ A B:=by intro zq;exact Zq.l.D.1 zq.1):=x.s k
def bZ(k:ZJ A B:=by intro zq;exact Zq.bD.y.1 zq.1):=x.s k
def b0(k:ZJ A B:=by intro zq;exact Zq.E.p.1 zq.1):=x.s k
def b2(k:ZJ A B:=by intro zq;exact Zq.e1.K.1 zq.1):=x.s k
def b4(k:ZJ A B:=by intro zq;exact Zq.c.h.1 zq.1):=x.s k
def fS(k:ZJ A B:=by intro zq;exact Zq.oB.dQ.1 zq.1):=x.s k
def fT(k:ZJ A B:=by intro zq;exact Zq.Y.J.1 zq.1):=x.s k
def b9(k:ZJ A B:=by intro zq;exact Zq.g4.dJ.1 zq.1):=x.s k
def cA(k:ZJ A B:=by intro zq;exact Zq.aU.bC.1 zq.1):=x.s k
def cB(k:ZJ A B:=by intro zq;exact Zq.a8.p.1 zq.1):=x.s k
def jF(k:ZJ A B:=by intro zq;exact Zq.a0.f.1 zq.1):=x.s k
def cC(k:ZJ A B:=by intro zq;exact Zq.fF.bT.1 zq.1):=x.s k
def cH(k:ZJ A B:=by intro zq;exact Zq.c5.I.1 zq.1):=x.s k
def cI(k:ZJ A B:=by intro zq;exact Zq.v.e.1 zq.1):=x.s k
def cJ(k:ZJ A B:=by intro zq;exact Zq.L.j.1 zq.1):=x.s k
def cO(k:ZJ A B:=by intro zq;exact Zq.aI.j.1 zq.1):=x.s k
def cR(k:ZJ A B:=by intro zq;exact Zq.q.dQ.1 zq.1):=x.s k
def cS(k:ZJ A B:=by intro zq;exact Zq.bI.y.1 zq.1):=x.s k
def cT(k:ZJ A B:=by intro zq;exact Zq.b.p.1 zq.1):=x.s k
def cU(k:ZJ A B:=by intro zq;exact Zq.dR.dR.1 zq.1):=x.s k
def cV(k:ZJ A B:=by intro zq;exact Zq.aG.jF.1 zq.1):=x.s k
def cW(k:ZJ A B:=by intro zq;exact Zq.m.Q.1 zq.1):=x.s k
def cY(k:ZJ A B:=by intro zq;exact Zq.u.g.1 zq.1):=x.s k
def cZ(k:ZJ A B:=by intro zq;exact Zq.b.i.1 zq.1):=x.s k
def c0(k:ZJ A B:=by intro zq;exact Zq.a.g.1 zq.1):=x.s k
def c1(k:ZJ A B:=by intro zq;exact Zq.I.D.1 zq.1):=x.s k
def c2(k:ZJ A B:=by intro zq;exact Zq.c.b8.1 zq.1):=x.s k
def c3(k:ZJ A B:=by intro zq;exact Zq.v.eM.1 zq.1):=x.s k
def c4(k:ZJ A B:=by intro zq;exact Zq.cN.h.1 zq.1):=x.s k
def c8(k:ZJ A B:=by intro zq;exact Zq.bB.cG.1 zq.1):=x.s k
def c9(k:ZJ A B:=by intro zq;exact Zq.O.j.1 zq.1):=x.s k
def dA(k:ZJ A B:=by intro zq;exact Zq.aC.j.1 zq.1):=x.s k
def dB(k:ZJ A B:=by intro zq;exact Zq.dW.b6.1 zq.1):=x.s k
def dC(k:ZJ A B:=by intro zq;exact Zq.b6.j.1 zq.1):=x.s k
def dE(k:ZJ A B:=by intro zq;exact Zq.fS.p.1 zq.1):=x.s k
def dF(k:ZJ A B:=by intro zq;exact Zq.aH.a6.1 zq.1):=x.s k
def dG(k:ZJ A B:=by intro zq;exact Zq.v.p.1 zq.1):=x.s k
def dK(k:ZJ A B:=by intro zq;exact Zq.aD.b.1 zq.1):=x.s k
def dL(k:ZJ A B:=by intro zq;exact Zq.O.fT.1 zq.1):=x.s k
def dM(k:ZJ A B:=by intro zq;exact Zq.q.n.1 zq.1):=x.s k
def dN(k:ZJ A B:=by intro zq;exact Zq.c.aZ.1 zq.1):=x.s k
def dS(k:ZJ A B:=by intro zq;exact Zq.a5.a5.1 zq.1):=x.s k
def dT(k:ZJ A B:=by intro zq;exact Zq.b.aT.1 zq.1):=x.s k
def dU(k:ZJ A B:=by intro zq;exact Zq.aV.g.1 zq.1):=x.s k
def dV(k:ZJ A B:=by intro zq;exact Zq.e1.iR.1 zq.1):=x.s k
end ZK
end Go.Proofs.YthliapbflkfdiacGreatDoor
