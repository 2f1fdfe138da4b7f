import Derived.Test.YtonhpkigoplmaaaGreatDoorProg
import Derived.WalkKit
import Derived.LaidEql
import Derived.Stop.Asserts
import Derived.RowKitTokens
import Derived.Outline
import Derived.LaidLaws
import Derived.LaidHandle
import Derived.Stop.LaidTwo
set_option maxRecDepth 100000
set_option maxHeartbeats 40000000
namespace Go.Proofs.YtonhpkigoplmaaaGreatDoor
section
open Go.RowKit Go.Extern.Stop Go.Stop Go.Extern
theorem rlm (z:Sem Value) (f:TypeId→Addr→Nat→Nat→Sem Value) (v:Value):
  ReflectliteValue.method z f #[v]=(do match←ReflectliteValue.parts v with|none=>z|some (t,a,fl)=>f t a fl (fl % 32)):=rfl
def kZ:TypeId→Sem Value:=fun t=>do Rtype.noPackHeld "Comparable" t;pure (.bool (←typeInfo t).comparable)
theorem qq (t:Addr) (w:World):(ReflectliteValue.unpack (.iface 141 (.pointer (some t)))).run Tryz.prog w
  = .ok (.agg #[.pointer (some ⟨11,141,none⟩),.pointer (some ⟨w.heap.size,0,none⟩),.int .u64 150]) (w.alloc (.cells #[.pointer (some t)] 141)):=by kernel_rfl
theorem vO (a:Addr) (w:World):(ReflectliteValue.methodAny (ReflectliteValue.valueError "reflectlite.Value.Type" 0) (fun t _ _ _=>ReflectliteType.toType t) #[.agg #[.pointer (some ⟨11,141,none⟩),.pointer (some a),.int .u64 150]]).run Tryz.prog w
  = .ok (.iface 216 (.agg #[.pointer (some ⟨11,141,none⟩)])) w:=by kernel_rfl
theorem o7 (h:Value) (w:World):(Go.method 363 216 (.agg #[h]) "Kind").run Tryz.prog w= .ok (197,h) w:=by kernel_rfl
theorem wt (w:World):((ReflectliteType.abiMethod fun t=>Functor.map (fun a:Nat=>Value.int IntKind.u8 (a:Int)) (Rtype.kind t)) #[.pointer (some ⟨11,141,none⟩)]).run Tryz.prog w= .ok (.int .u8 22) w:=by kernel_rfl
theorem xq (w:World):((ReflectliteType.abiMethod fun t=>Functor.map (fun a:Nat=>Value.int IntKind.u8 (a:Int)) (Rtype.kind t)) #[.pointer (some ⟨11,136,none⟩)]).run Tryz.prog w= .ok (.int .u8 22) w:=by kernel_rfl
theorem ui (a:Addr) (w:World):(ReflectliteValue.parts (.agg #[.pointer (some ⟨11,141,none⟩),.pointer (some a),.int .u64 150])).run Tryz.prog w= .ok (some (141,a,150)) w:=by kernel_rfl
theorem uq (a p:Addr) (W:World) (ha:W.cell? a=some (.pointer (some p))):
  (ReflectliteValue.method (ReflectliteValue.valueError "reflectlite.Value.IsNil" 0) ReflectliteValue.isNil #[.agg #[.pointer (some ⟨11,141,none⟩),.pointer (some a),.int .u64 150]]).run Tryz.prog W= .ok (.bool false) W:=by
 rw[rlm];simp only[Sem.run_bind,ui,Result.andThen];simp[ReflectliteValue.isNil,loadVar,isAgg,underlying,Tryz.underlying141,ha,Result.andThen]
theorem pn (h:Value) (w:World):(Go.method 363 216 (.agg #[h]) "Elem").run Tryz.prog w= .ok (207,.agg #[h]) w:=by kernel_rfl
theorem j8 (h:Value) (w:World):(Go.method 363 216 (.agg #[h]) "Implements").run Tryz.prog w= .ok (208,.agg #[h]) w:=by kernel_rfl
theorem jB (h:Value) (w:World):(Go.method 363 216 (.agg #[h]) "AssignableTo").run Tryz.prog w= .ok (205,.agg #[h]) w:=by kernel_rfl
theorem vH (w:World):(ReflectliteType.method ReflectliteType.elem #[.agg #[.pointer (some ⟨11,141,none⟩)]]).run Tryz.prog w= .ok (.iface 216 (.agg #[.pointer (some ⟨11,136,none⟩)])) w:=by kernel_rfl
theorem mz (w:World):(ReflectliteType.relation "Implements" ReflectliteType.implements_ #[.agg #[.pointer (some ⟨11,136,none⟩)],.iface 216 (.agg #[.pointer (some ⟨11,70,none⟩)])]).run Tryz.prog w= .ok (.bool true) w:=by kernel_rfl
theorem jy (v:Value) (w:World):(ReflectliteType.typeOf #[.iface 229 v]).run Tryz.prog w= .ok (.iface 216 (.agg #[.pointer (some ⟨11,229,none⟩)])) w:=by kernel_rfl
theorem td (w:World):(ReflectliteType.relation "AssignableTo" ReflectliteType.assignableTo #[.agg #[.pointer (some ⟨11,229,none⟩)],.iface 216 (.agg #[.pointer (some ⟨11,136,none⟩)])]).run Tryz.prog w= .ok (.bool false) w:=by kernel_rfl
theorem jq (w:World):(Extern.ReflectliteType.method kZ #[.agg #[.pointer (some ⟨11,229,none⟩)]]).run Tryz.prog w= .ok (.bool true) w:=by kernel_rfl
theorem eL (v:Value) (w:World):(Go.method 363 216 v "Comparable").run Tryz.prog w= .ok (206,v) w:=by kernel_rfl
theorem lE:(Tryz.prog.info? 229).map (·.comparable)=some true:=by kernel_rfl
theorem lJ:(Tryz.prog.info? 251).map (·.size)=some 1:=by kernel_rfl
theorem Ej (v:Value) (xT:TypeId) (w:World):(Instr.typeAssert (.iface 229 v) xT 220 true).run Tryz.prog w= .ok (.tuple #[.nilIface,.bool false]) w:=run_typeAssert_lacksB Tryz.underlying220 (by kernel_rfl) (by kernel_rfl) v xT w
theorem xt (v:Value) (xT:TypeId) (w:World):(Instr.typeAssert (.iface 229 v) xT 226 true).run Tryz.prog w= .ok (.tuple #[.nilIface,.bool false]) w:=run_typeAssert_lacksB Tryz.underlying226 (by kernel_rfl) (by kernel_rfl) v xT w
theorem lK (v:Value) (xT:TypeId) (w:World):(Instr.typeAssert (.iface 229 v) xT 223 true).run Tryz.prog w= .ok (.tuple #[.nilIface,.bool false]) w:=run_typeAssert_lacksB Tryz.underlying223 (by kernel_rfl) (by kernel_rfl) v xT w
theorem kp (v:Value) (xT:TypeId) (w:World):(Instr.typeAssert (.iface 229 v) xT 224 true).run Tryz.prog w= .ok (.tuple #[.nilIface,.bool false]) w:=run_typeAssert_lacksB Tryz.underlying224 (by kernel_rfl) (by kernel_rfl) v xT w
theorem Fx (a:Addr) (w:World):
  Calls Tryz.prog 98 #[.iface 229 (.pointer (some a)),.iface 229 (.pointer (some a))] w fun e w'=>e= .returned (.bool true)∧w'=w:=by
 obtain⟨i,hi,hcmp⟩:=Option.map_eq_some_iff.1 lE;obtain⟨j,hj,hjs⟩:=Option.map_eq_some_iff.1 lJ;have h8:=@run_callFunc_extern Tryz.prog 150 _ Extern.ReflectliteType.typeOf Tryz.func150 (by kernel_rfl) (by kernel_rfl) (by kernel_rfl) (by kernel_rfl);have h32:=@run_callFunc_extern Tryz.prog 206 _ (Extern.ReflectliteType.method kZ) Tryz.func206 (by kernel_rfl) (by kernel_rfl) (by kernel_rfl) (by kernel_rfl);have tT:=jy;have cT:=jq;have mR:=eL;have heq:=run_eql_iface_ptr_same (P:=Tryz.prog) w a Tryz.underlying70 Tryz.underlying229 hi hcmp hj;go_enter Tryz.func98,Tryz.ntmps98;go_wp2;refine wp_loop_rounds 1 ?_;rw[rounds_succ];go_wp2
 go_ret
 exact⟨rfl,rfl⟩
theorem Et (a b:Addr) (ca cb:Array Value) (ta tb:TypeId) (w:World) (hne:a≠b) (ha:w.heap[a.block]?=some (.cells ca ta (0,0))) (hb:w.heap[b.block]?=some (.cells cb tb (0,0))):
  Calls Tryz.prog 98 #[.iface 229 (.pointer (some a)),.iface 229 (.pointer (some b))] w fun e w'=>e= .returned (.bool false)∧w'=w:=by
 obtain⟨i,hi,hcmp⟩:=Option.map_eq_some_iff.1 lE;obtain⟨j,hj,hjs⟩:=Option.map_eq_some_iff.1 lJ;have h8:=@run_callFunc_extern Tryz.prog 150 _ Extern.ReflectliteType.typeOf Tryz.func150 (by kernel_rfl) (by kernel_rfl) (by kernel_rfl) (by kernel_rfl);have h32:=@run_callFunc_extern Tryz.prog 206 _ (Extern.ReflectliteType.method kZ) Tryz.func206 (by kernel_rfl) (by kernel_rfl) (by kernel_rfl) (by kernel_rfl);have tT:=jy;have cT:=jq;have mR:=eL;have nE:=xt;have uE:=lK;have vE:=kp;have heq:=run_eql_iface_ptr_other (P:=Tryz.prog) w Tryz.underlying70 Tryz.underlying229 hi hcmp hj (by rw[hjs];decide) hne ha hb;go_enter Tryz.func98,Tryz.ntmps98;go_wp2;refine wp_loop_rounds 1 ?_;rw[rounds_succ];go_wp2
 go_ret
 exact⟨rfl,rfl⟩
theorem Fm (e t:Addr) (w:World) (hg:w.cell? ⟨9,0,none⟩=some (.iface 216 (.agg #[.pointer (some ⟨11,70,none⟩)]))):
  Calls Tryz.prog 96 #[.iface 229 (.pointer (some e)),.iface 141 (.pointer (some t))] w fun ev w'=>ev= .returned (.bool false)∧Below w.heap.size w w':=by
 have h6:=@run_callFunc_extern Tryz.prog 146 _ (fun args=>ReflectliteValue.unpack (args.getD 0 (.tuple #[]))) Tryz.func146 (by kernel_rfl) (by kernel_rfl) (by kernel_rfl) (by kernel_rfl);have h7:=@run_callFunc_extern Tryz.prog 147 _ (ReflectliteValue.methodAny (ReflectliteValue.valueError "reflectlite.Value.Type" 0) (fun t _ _ _=>ReflectliteType.toType t)) Tryz.func147 (by kernel_rfl) (by kernel_rfl) (by kernel_rfl) (by kernel_rfl);have h8:=@run_callFunc_extern Tryz.prog 148 _ (ReflectliteValue.method (ReflectliteValue.valueError "reflectlite.Value.IsNil" 0) ReflectliteValue.isNil) Tryz.func148 (by kernel_rfl) (by kernel_rfl) (by kernel_rfl) (by kernel_rfl);have h27:=@run_callFunc_extern Tryz.prog 197 _ (ReflectliteType.abiMethod fun t=>do pure (.int .u8 (←Rtype.kind t))) Tryz.func197 (by kernel_rfl) (by kernel_rfl) (by kernel_rfl) (by kernel_rfl);have h37:=@run_callFunc_extern Tryz.prog 207 _ (ReflectliteType.method ReflectliteType.elem) Tryz.func207 (by kernel_rfl) (by kernel_rfl) (by kernel_rfl) (by kernel_rfl);have h38:=@run_callFunc_extern Tryz.prog 208 _ (ReflectliteType.relation "Implements" ReflectliteType.implements_) Tryz.func208 (by kernel_rfl) (by kernel_rfl) (by kernel_rfl) (by kernel_rfl);have h10:=@run_callFunc_extern Tryz.prog 150 _ ReflectliteType.typeOf Tryz.func150 (by kernel_rfl) (by kernel_rfl) (by kernel_rfl) (by kernel_rfl);have h35:=@run_callFunc_extern Tryz.prog 205 _ (ReflectliteType.relation "AssignableTo" ReflectliteType.assignableTo) Tryz.func205 (by kernel_rfl) (by kernel_rfl) (by kernel_rfl) (by kernel_rfl);have tO:=jy;have mA:=jB;have a25:=td;have f6:=qq;have f7:=vO;have mK:=o7;have mE:=pn;have mI:=j8;have k27:=wt;have k25:=xq;have e27:=vH;have i25:=mz;have nA:=Ej;have uE:=lK;have vE:=kp;have n8:=uq ⟨w.heap.size,0,none⟩ t ((w.alloc (.cells #[.pointer (some t)] 141)).alloc (.cells #[.pointer (some ⟨11,141,none⟩),.pointer (some ⟨w.heap.size,0,none⟩),.int .u64 150] 186)) (by simp)
 have hlt:9<w.heap.size:=by
  rcases Nat.lt_or_ge 9 w.heap.size with h|h
  ·exact h
  ·simp[World.cell?,Array.getElem?_eq_none h] at hg
 have hg2:((w.alloc (.cells #[.pointer (some t)] 141)).alloc (.cells #[.pointer (some ⟨11,141,none⟩),.pointer (some ⟨w.heap.size,0,none⟩),.int .u64 150] 186)).cell? ⟨9,0,none⟩=some (.iface 216 (.agg #[.pointer (some ⟨11,70,none⟩)])):=by
  rw[World.cell?_alloc_lt _ _ ⟨9,0,none⟩ (by simp;omega),World.cell?_alloc_lt _ _ ⟨9,0,none⟩ hlt];exact hg
 go_enter Tryz.func96,Tryz.ntmps96;go_wp2;refine wp_loop_rounds 1 ?_;rw[rounds_succ];go_wp2
 go_ret
 exact⟨rfl,(((Below.refl _ _).alloc (Nat.le_refl _) _).alloc (by simp) _).alloc (by simp;omega) _⟩
def gix:Nat→Nat
 |0=>3
 |1=>4
 |2=>5
 |3=>1
 |4=>2
 |5=>0
 |6=>6
 |7=>7
 | _=>8
structure aE (A:Nat→Addr) (w:World):Prop where
 ty:w.cell? ⟨9,0,none⟩=some (.iface 216 (.agg #[.pointer (some ⟨11,70,none⟩)]))
 cell:∀k,k<9→w.cell? ⟨gix k,0,none⟩=some (.iface 229 (.pointer (some (A k))))
 row:∀k,k<9→∃c t,w.heap[(A k).block]?=some (.cells c t (0,0))
 other:∀j k,j<k→k<9→A j≠A k
theorem bL {w:World} {p:Addr} {v:Value} (h:w.cell? p=some v):p.block<w.heap.size:=by
 rcases Nat.lt_or_ge p.block w.heap.size with h'|h'
 ·exact h'
 ·simp[World.cell?,Array.getElem?_eq_none h'] at h
theorem ag {w:World} {b:Nat} {o:Obj} (h:w.heap[b]?=some o):b<w.heap.size:=by
 rcases Nat.lt_or_ge b w.heap.size with h'|h'
 ·exact h'
 ·simp[Array.getElem?_eq_none h'] at h
theorem aE.below {A:Nat→Addr} {w w':World} {B:Nat} (h:aE A w) (hb:Below B w w') (hB:w.heap.size≤B):aE A w':=by
 refine⟨?_,fun k hk=>?_,fun k hk=>?_,h.other⟩
 ·have:=bL h.ty;rw[hb.cell (by simp at this⊢;omega)];exact h.ty
 ·have:=bL (h.cell k hk);rw[hb.cell (by simp at this⊢;omega)];exact h.cell k hk
 ·obtain⟨c,t,hr⟩:=h.row k hk;have:=ag hr;exact⟨c,t,by rw[hb.block _ (by omega)];exact hr⟩
theorem aE.alloc {A:Nat→Addr} {w:World} (h:aE A w) (o:Obj):aE A (w.alloc o):=
 h.below ((Below.refl _ _).alloc (Nat.le_refl _) o) (Nat.le_refl _)
theorem m7 (w:World):Calls Tryz.prog 49 #[.nilIface] w fun e w'=>e= .returned (.tuple #[.int .i64 0,.string ⟨#[]⟩])∧w'=w:=by
 go_enter Tryz.func49,Tryz.ntmps49;go_wp2;go_ret2;exact⟨rfl,rfl⟩
theorem ut (A:Nat→Addr) (w:World) (i:Nat) (hi:i<9) (hS:aE A w):
  Calls Tryz.prog 49 #[.iface 229 (.pointer (some (A i)))] w fun e w'=>e= .returned (.tuple #[.int .i64 (i+1:Nat),.string ⟨#[]⟩])∧Below w.heap.size w w':=by
 go_enter Tryz.func49,Tryz.ntmps49;go_wp2_with fail;refine(Fm _ _ _ (hS.alloc _).ty).mono ?_;rintro e w1 ⟨rfl,hb1⟩;have hS1:=(hS.alloc _).below hb1 (Nat.le_refl _);have hb:Below w.heap.size w w1:=((Below.refl _ _).alloc (Nat.le_refl _) _).trans (hb1.mono (by simp));have c0:w1.cell? ⟨3,0,none⟩=some (.iface 229 (.pointer (some (A 0)))):=hS1.cell 0 (by omega);have c1:w1.cell? ⟨4,0,none⟩=some (.iface 229 (.pointer (some (A 1)))):=hS1.cell 1 (by omega);have c2:w1.cell? ⟨5,0,none⟩=some (.iface 229 (.pointer (some (A 2)))):=hS1.cell 2 (by omega);have c3:w1.cell? ⟨1,0,none⟩=some (.iface 229 (.pointer (some (A 3)))):=hS1.cell 3 (by omega);have c4:w1.cell? ⟨2,0,none⟩=some (.iface 229 (.pointer (some (A 4)))):=hS1.cell 4 (by omega);have c5:w1.cell? ⟨0,0,none⟩=some (.iface 229 (.pointer (some (A 5)))):=hS1.cell 5 (by omega);have c6:w1.cell? ⟨6,0,none⟩=some (.iface 229 (.pointer (some (A 6)))):=hS1.cell 6 (by omega);have c7:w1.cell? ⟨7,0,none⟩=some (.iface 229 (.pointer (some (A 7)))):=hS1.cell 7 (by omega);have c8:w1.cell? ⟨8,0,none⟩=some (.iface 229 (.pointer (some (A 8)))):=hS1.cell 8 (by omega);clear hb1;go_wp2_with fail;have hS2:=hS1.alloc (.cells #[.iface 229 (.pointer (some (A 0))),.iface 229 (.pointer (some (A 1))),.iface 229 (.pointer (some (A 2))),.iface 229 (.pointer (some (A 3))),.iface 229 (.pointer (some (A 4))),.iface 229 (.pointer (some (A 5))),.iface 229 (.pointer (some (A 6))),.iface 229 (.pointer (some (A 7))),.iface 229 (.pointer (some (A 8)))] 70);have hb2:=hb.alloc hb.size (.cells #[.iface 229 (.pointer (some (A 0))),.iface 229 (.pointer (some (A 1))),.iface 229 (.pointer (some (A 2))),.iface 229 (.pointer (some (A 3))),.iface 229 (.pointer (some (A 4))),.iface 229 (.pointer (some (A 5))),.iface 229 (.pointer (some (A 6))),.iface 229 (.pointer (some (A 7))),.iface 229 (.pointer (some (A 8)))] 70)
 have hl:∀k,k<9→(w1.alloc (.cells #[.iface 229 (.pointer (some (A 0))),.iface 229 (.pointer (some (A 1))),.iface 229 (.pointer (some (A 2))),.iface 229 (.pointer (some (A 3))),.iface 229 (.pointer (some (A 4))),.iface 229 (.pointer (some (A 5))),.iface 229 (.pointer (some (A 6))),.iface 229 (.pointer (some (A 7))),.iface 229 (.pointer (some (A 8)))] 70)).cell? ⟨w1.heap.size,k,none⟩=some (.iface 229 (.pointer (some (A k)))):=by
  intro k hk;rcases(show k=0∨k=1∨k=2∨k=3∨k=4∨k=5∨k=6∨k=7∨k=8 by omega) with rfl|rfl|rfl|rfl|rfl|rfl|rfl|rfl|rfl<;>simp
 clear c0 c1 c2 c3 c4 c5 c6 c7 c8 hb hS1 hS;generalize(w1.alloc (.cells #[.iface 229 (.pointer (some (A 0))),.iface 229 (.pointer (some (A 1))),.iface 229 (.pointer (some (A 2))),.iface 229 (.pointer (some (A 3))),.iface 229 (.pointer (some (A 4))),.iface 229 (.pointer (some (A 5))),.iface 229 (.pointer (some (A 6))),.iface 229 (.pointer (some (A 7))),.iface 229 (.pointer (some (A 8)))] 70))=W2 at*
 go_loop [38] (fun v=>∃k:Nat,k≤i∧v= .int .i64 k) (fun v=>9-(intOf v).toNat)
 case atStart=>exact⟨0,Nat.zero_le _,rfl⟩
 case round=>
  obtain⟨k,hk,rfl⟩:=hrel;have hck:=hl k (by omega);have hk9:k<9:=by omega
  clear hl;by_cases hki:k=i
  ·subst hki;go_wp2_with fail;refine(Fx _ _).mono ?_;rintro e w' ⟨rfl,rfl⟩;go_wp2_with fail;go_ret2;exact⟨by go_num,hb2⟩
  ·obtain⟨ca,ta,hra⟩:=hS2.row i hi;obtain⟨cb,tb,hrb⟩:=hS2.row k hk9;have hne:A i≠A k:=fun h=>hS2.other k i (by omega) hi h.symm
   go_wp2_with fail;refine(Et _ _ ca cb ta tb _ hne hra hrb).mono ?_;rintro e w' ⟨rfl,rfl⟩;go_wp2_with fail
   go_round
   case rel=>exact⟨k+1,by omega,by go_num⟩
   case measure=>simp[intOf];omega
theorem Ao (v:Value) (w:World):(ReflectliteType.typeOf #[.iface 136 v]).run Tryz.prog w= .ok (.iface 216 (.agg #[.pointer (some ⟨11,136,none⟩)])) w:=by kernel_rfl
theorem tf (w:World):(ReflectliteType.relation "AssignableTo" ReflectliteType.assignableTo #[.agg #[.pointer (some ⟨11,136,none⟩)],.iface 216 (.agg #[.pointer (some ⟨11,136,none⟩)])]).run Tryz.prog w= .ok (.bool true) w:=by kernel_rfl
theorem yH (e:Addr) (w:World):(ReflectliteValue.unpack (.iface 136 (.pointer (some e)))).run Tryz.prog w
  = .ok (.agg #[.pointer (some ⟨11,136,none⟩),.pointer (some ⟨w.heap.size,0,none⟩),.int .u64 150]) (w.alloc (.cells #[.pointer (some e)] 136)):=by kernel_rfl
theorem Cj (w:World):(Rtype.elem? 141).run Tryz.prog w= .ok (some 136) w:=by kernel_rfl
theorem GL (p:Addr) (w:World):(ReflectliteValue.mk 136 p ReflectliteValue.flagAddr).run Tryz.prog w= .ok (.agg #[.pointer (some ⟨11,136,none⟩),.pointer (some p),.int .u64 406]) w:=by kernel_rfl
theorem By (a p:Addr) (W:World) (ha:W.cell? a=some (.pointer (some p))):
  (ReflectliteValue.method (ReflectliteValue.valueError "reflectlite.Value.Elem" 0) ReflectliteValue.elem #[.agg #[.pointer (some ⟨11,141,none⟩),.pointer (some a),.int .u64 150]]).run Tryz.prog W
   = .ok (.agg #[.pointer (some ⟨11,136,none⟩),.pointer (some p),.int .u64 406]) W:=by
 rw[rlm];simp only[Sem.run_bind,ui,Result.andThen];simp[ReflectliteValue.elem,loadVar,isAgg,underlying,Tryz.underlying141,ha,Result.andThen,Cj,GL]
theorem Ar (a:Addr) (w:World):(ReflectliteValue.parts (.agg #[.pointer (some ⟨11,136,none⟩),.pointer (some a),.int .u64 406])).run Tryz.prog w= .ok (some (136,a,406)) w:=by kernel_rfl
theorem Bm (a:Addr) (w:World):(ReflectliteValue.parts (.agg #[.pointer (some ⟨11,136,none⟩),.pointer (some a),.int .u64 150])).run Tryz.prog w= .ok (some (136,a,150)) w:=by kernel_rfl
theorem z5 (w:World):(Rtype.directlyAssignable 136 136).run Tryz.prog w= .ok true w:=by kernel_rfl
theorem F3 (ta b e:Addr) (old:Value) (W:World) (hb:W.cell? b=some (.pointer (some e))) (ht:W.cell? ta=some old) (hf:W.frozen? ta=false):
  (ReflectliteValue.set #[.agg #[.pointer (some ⟨11,136,none⟩),.pointer (some ta),.int .u64 406],.agg #[.pointer (some ⟨11,136,none⟩),.pointer (some b),.int .u64 150]]).run Tryz.prog W
   = .ok (.tuple #[]) (W.setCell ta (.pointer (some e))):=by
 unfold ReflectliteValue.set
 delta ReflectliteValue.set.match_3
 simp only[Array.getLit,List.size_toArray,List.length_cons,List.length_nil,Nat.zero_add,Nat.reduceAdd,dite_true,List.getElem_toArray,List.getElem_cons_zero,List.getElem_cons_succ];simp only[Sem.run_bind,Ar,Bm,Result.andThen];simp[ReflectliteValue.flagAddr,loadVar,isAgg,underlying,Tryz.underlying136,hb,Result.andThen,z5,storeVar,Value.cells,storeCells,Addr.add];rw[run_store Tryz.prog W ta _ _ (by rfl)];simp[ht,hf]
theorem Gv (e t:Addr) (old:Value) (w:World) (hg:w.cell? ⟨9,0,none⟩=some (.iface 216 (.agg #[.pointer (some ⟨11,70,none⟩)]))) (ht0:w.cell? t=some old) (hf0:w.frozen? t=false):
  Calls Tryz.prog 96 #[.iface 136 (.pointer (some e)),.iface 141 (.pointer (some t))] w fun ev w'=>ev= .returned (.bool true)∧∃w1,Below w.heap.size w w1∧w'=w1.setCell t (.pointer (some e)):=by
 have h6:=@run_callFunc_extern Tryz.prog 146 _ (fun args=>ReflectliteValue.unpack (args.getD 0 (.tuple #[]))) Tryz.func146 (by kernel_rfl) (by kernel_rfl) (by kernel_rfl) (by kernel_rfl);have h7:=@run_callFunc_extern Tryz.prog 147 _ (ReflectliteValue.methodAny (ReflectliteValue.valueError "reflectlite.Value.Type" 0) (fun t _ _ _=>ReflectliteType.toType t)) Tryz.func147 (by kernel_rfl) (by kernel_rfl) (by kernel_rfl) (by kernel_rfl);have h8:=@run_callFunc_extern Tryz.prog 148 _ (ReflectliteValue.method (ReflectliteValue.valueError "reflectlite.Value.IsNil" 0) ReflectliteValue.isNil) Tryz.func148 (by kernel_rfl) (by kernel_rfl) (by kernel_rfl) (by kernel_rfl);have h27:=@run_callFunc_extern Tryz.prog 197 _ (ReflectliteType.abiMethod fun t=>do pure (.int .u8 (←Rtype.kind t))) Tryz.func197 (by kernel_rfl) (by kernel_rfl) (by kernel_rfl) (by kernel_rfl);have h37:=@run_callFunc_extern Tryz.prog 207 _ (ReflectliteType.method ReflectliteType.elem) Tryz.func207 (by kernel_rfl) (by kernel_rfl) (by kernel_rfl) (by kernel_rfl);have h38:=@run_callFunc_extern Tryz.prog 208 _ (ReflectliteType.relation "Implements" ReflectliteType.implements_) Tryz.func208 (by kernel_rfl) (by kernel_rfl) (by kernel_rfl) (by kernel_rfl);have h10:=@run_callFunc_extern Tryz.prog 150 _ ReflectliteType.typeOf Tryz.func150 (by kernel_rfl) (by kernel_rfl) (by kernel_rfl) (by kernel_rfl);have h35:=@run_callFunc_extern Tryz.prog 205 _ (ReflectliteType.relation "AssignableTo" ReflectliteType.assignableTo) Tryz.func205 (by kernel_rfl) (by kernel_rfl) (by kernel_rfl) (by kernel_rfl);have h11:=@run_callFunc_extern Tryz.prog 175 _ (ReflectliteValue.method (ReflectliteValue.valueError "reflectlite.Value.Elem" 0) ReflectliteValue.elem) Tryz.func175 (by kernel_rfl) (by kernel_rfl) (by kernel_rfl) (by kernel_rfl);have h12:=@run_callFunc_extern Tryz.prog 176 _ ReflectliteValue.set Tryz.func176 (by kernel_rfl) (by kernel_rfl) (by kernel_rfl) (by kernel_rfl);have tO:=Ao;have mA:=jB;have a25:=tf;have v25:=yH;have f6:=qq;have f7:=vO;have mK:=o7;have mE:=pn;have mI:=j8;have k27:=wt;have k25:=xq;have e27:=vH;have i25:=mz;have n8:=uq ⟨w.heap.size,0,none⟩ t ((w.alloc (.cells #[.pointer (some t)] 141)).alloc (.cells #[.pointer (some ⟨11,141,none⟩),.pointer (some ⟨w.heap.size,0,none⟩),.int .u64 150] 186)) (by simp);have hlt:=bL hg
 have hg2:((w.alloc (.cells #[.pointer (some t)] 141)).alloc (.cells #[.pointer (some ⟨11,141,none⟩),.pointer (some ⟨w.heap.size,0,none⟩),.int .u64 150] 186)).cell? ⟨9,0,none⟩=some (.iface 216 (.agg #[.pointer (some ⟨11,70,none⟩)])):=by
  rw[World.cell?_alloc_lt _ _ ⟨9,0,none⟩ (by simp at hlt⊢;omega),World.cell?_alloc_lt _ _ ⟨9,0,none⟩ hlt];exact hg
 have htl:=bL ht0;have el:=By ⟨w.heap.size,0,none⟩ t (((w.alloc (.cells #[.pointer (some t)] 141)).alloc (.cells #[.pointer (some ⟨11,141,none⟩),.pointer (some ⟨w.heap.size,0,none⟩),.int .u64 150] 186)).alloc (.cells #[.pointer (some ⟨11,141,none⟩),.pointer (some ⟨w.heap.size,0,none⟩),.int .u64 150] 186)) (by rw[World.cell?_alloc_lt _ _ ⟨w.heap.size,0,none⟩ (by simp;omega)];simp)
 have st:=F3 t ⟨w.heap.size+1+1+1,0,none⟩ e old ((((w.alloc (.cells #[.pointer (some t)] 141)).alloc (.cells #[.pointer (some ⟨11,141,none⟩),.pointer (some ⟨w.heap.size,0,none⟩),.int .u64 150] 186)).alloc (.cells #[.pointer (some ⟨11,141,none⟩),.pointer (some ⟨w.heap.size,0,none⟩),.int .u64 150] 186)).alloc (.cells #[.pointer (some e)] 136))
  (by rw[World.cell?_alloc_at _ _ _ _ (by simp)];rfl)
  (by rw[World.cell?_alloc_lt _ _ t (by simp;omega),World.cell?_alloc_lt _ _ t (by simp;omega),World.cell?_alloc_lt _ _ t (by simp;omega),World.cell?_alloc_lt _ _ t htl];exact ht0)
  (by rw[World.frozen?_alloc_old _ _ t (by simp;omega),World.frozen?_alloc_old _ _ t (by simp;omega),World.frozen?_alloc_old _ _ t (by simp;omega),World.frozen?_alloc_old _ _ t (Nat.ne_of_lt htl)];exact hf0)
 go_enter Tryz.func96,Tryz.ntmps96;go_wp2;refine wp_loop_rounds 1 ?_;rw[rounds_succ];go_wp2
 go_ret
 exact⟨rfl,_,((((Below.refl _ _).alloc (Nat.le_refl _) _).alloc (by simp) _).alloc (by simp;omega) _).alloc (by simp;omega) _,rfl⟩
theorem mr (p:Addr) (w:World):(Go.method 363 136 (.pointer (some p)) "Unwrap").run Tryz.prog w= .ok (97,.pointer (some p)) w:=by kernel_rfl
theorem xr (v:Value) (xT:TypeId) (w:World):(Instr.typeAssert (.iface 136 v) xT 226 true).run Tryz.prog w= .ok (.tuple #[.nilIface,.bool false]) w:=run_typeAssert_lacksB Tryz.underlying226 (by kernel_rfl) (by kernel_rfl) v xT w
theorem q9 (v:Value) (xT:TypeId) (w:World):(Instr.typeAssert (.iface 136 v) xT 223 true).run Tryz.prog w= .ok (.tuple #[.iface 136 v,.bool true]) w:=run_typeAssert_hasB Tryz.underlying223 (by kernel_rfl) v xT w
theorem mZ (b:Nat) (s:ByteArray) (e:Value) (w:World) (h:w.heap[b]?=some (.cells #[.string s,e] 138 (0,0))):Calls Tryz.prog 97 #[.pointer (some ⟨b,0,none⟩)] w fun ev w'=>ev= .returned e∧w'=w:=by
 have hc:w.cell? ⟨b,1,none⟩=some e:=by simp[World.cell?,h]
 go_enter Tryz.func97,Tryz.ntmps97;go_wp2
 go_ret
 exact⟨rfl,rfl⟩
theorem vx (b:Nat) (s:ByteArray) (a:Addr) (w:World) (h:w.heap[b]?=some (.cells #[.string s,.iface 229 (.pointer (some a))] 138 (0,0))):
  Calls Tryz.prog 98 #[.iface 136 (.pointer (some ⟨b,0,none⟩)),.iface 229 (.pointer (some a))] w fun e w'=>e= .returned (.bool true)∧w'=w:=by
 obtain⟨i,hi,hcmp⟩:=Option.map_eq_some_iff.1 lE;obtain⟨j,hj,hjs⟩:=Option.map_eq_some_iff.1 lJ;have h8:=@run_callFunc_extern Tryz.prog 150 _ Extern.ReflectliteType.typeOf Tryz.func150 (by kernel_rfl) (by kernel_rfl) (by kernel_rfl) (by kernel_rfl);have h32:=@run_callFunc_extern Tryz.prog 206 _ (Extern.ReflectliteType.method kZ) Tryz.func206 (by kernel_rfl) (by kernel_rfl) (by kernel_rfl) (by kernel_rfl);have tT:=jy;have cT:=jq;have mR:=eL;have mU:=mr ⟨b,0,none⟩;have nI:=xr;have uO:=q9;have hne:=run_eql_iface_types (P:=Tryz.prog) 136 229 (.pointer (some ⟨b,0,none⟩)) (.pointer (some a)) Tryz.underlying70 (by decide);have heq:=run_eql_iface_ptr_same (P:=Tryz.prog) w a Tryz.underlying70 Tryz.underlying229 hi hcmp hj;have HU:Hid (∀w,w.heap[b]?=some (.cells #[.string s,.iface 229 (.pointer (some a))] 138 (0,0))→Calls Tryz.prog 97 #[.pointer (some ⟨b,0,none⟩)] w fun ev w'=>ev= .returned (.iface 229 (.pointer (some a)))∧w'=w):=fun w h=>mZ b s _ w h
 have H:Hid (w.heap[b]?=some (.cells #[.string s,.iface 229 (.pointer (some a))] 138 (0,0))):=h;clear h;go_enter Tryz.func98,Tryz.ntmps98;go_wp2;refine wp_loop_rounds 2 ?_;rw[rounds_succ];go_wp2_with fail;refine Calls.mono (HU.out _ H.out) ?_;rintro e w' ⟨rfl,rfl⟩;go_wp2_with fail;rw[rounds_succ];go_wp2
 go_ret
 exact⟨rfl,rfl⟩
theorem uH (b:Nat) (s:ByteArray) (a c:Addr) (ca cb:Array Value) (ta tb:TypeId) (w:World) (hac:a≠c) (ha:w.heap[a.block]?=some (.cells ca ta (0,0))) (hb:w.heap[c.block]?=some (.cells cb tb (0,0))) (h:w.heap[b]?=some (.cells #[.string s,.iface 229 (.pointer (some a))] 138 (0,0))):
  Calls Tryz.prog 98 #[.iface 136 (.pointer (some ⟨b,0,none⟩)),.iface 229 (.pointer (some c))] w fun e w'=>e= .returned (.bool false)∧w'=w:=by
 obtain⟨i,hi,hcmp⟩:=Option.map_eq_some_iff.1 lE;obtain⟨j,hj,hjs⟩:=Option.map_eq_some_iff.1 lJ;have h8:=@run_callFunc_extern Tryz.prog 150 _ Extern.ReflectliteType.typeOf Tryz.func150 (by kernel_rfl) (by kernel_rfl) (by kernel_rfl) (by kernel_rfl);have h32:=@run_callFunc_extern Tryz.prog 206 _ (Extern.ReflectliteType.method kZ) Tryz.func206 (by kernel_rfl) (by kernel_rfl) (by kernel_rfl) (by kernel_rfl);have tT:=jy;have cT:=jq;have mR:=eL;have mU:=mr ⟨b,0,none⟩;have nI:=xr;have uO:=q9;have hne:=run_eql_iface_types (P:=Tryz.prog) 136 229 (.pointer (some ⟨b,0,none⟩)) (.pointer (some c)) Tryz.underlying70 (by decide);have nE:=xt;have uE:=lK;have vE:=kp;have heq:=run_eql_iface_ptr_other (P:=Tryz.prog) w Tryz.underlying70 Tryz.underlying229 hi hcmp hj (by rw[hjs];decide) hac ha hb;clear ha hb;have HU:Hid (∀w,w.heap[b]?=some (.cells #[.string s,.iface 229 (.pointer (some a))] 138 (0,0))→Calls Tryz.prog 97 #[.pointer (some ⟨b,0,none⟩)] w fun ev w'=>ev= .returned (.iface 229 (.pointer (some a)))∧w'=w):=fun w h=>mZ b s _ w h
 have H:Hid (w.heap[b]?=some (.cells #[.string s,.iface 229 (.pointer (some a))] 138 (0,0))):=h;clear h;go_enter Tryz.func98,Tryz.ntmps98;go_wp2;refine wp_loop_rounds 2 ?_;rw[rounds_succ];go_wp2_with fail;refine Calls.mono (HU.out _ H.out) ?_;rintro e w' ⟨rfl,rfl⟩;go_wp2_with fail;rw[rounds_succ];go_wp2
 go_ret
 exact⟨rfl,rfl⟩
end
section
open Go.RowKit
theorem rK {P:Program} {nm:String} {W:World} {ti tp te ts:TypeId} {ms:Array (String×TypeId)} {f:Field}
  (hi:P.underlying ti=some (.interface ms)) (hrow:∀u,P.typeName? 3 u=some nm→u=tp)
  (hp:P.underlying tp=some (.pointer te)) (he:P.underlying te=some (.struct #[f])) (hft:f.type=ts) (hfo:f.offset=0) (hs:P.underlying ts=some .string) (hc:P.cellsOf te=1) (hcs:P.cellsOf ts=1):
  ∀(l:List (String×List UInt8)) (gs:Nat→Nat) (ps:List MemPlace),DataW.LaidVars P W (l.map fun x=>(x.1,.iface nm (.ptr (.agg [.lit (.string x.2)])))) ps→
   (∀k (h:k<l.length),P.globalNamed l[k].1=some (gs k)∧(P.globals[gs k]?).map (·.type)=some ti)→
   (∀b off,MemPlace.cell b off∈ps→(∃c t,W.heap[b]?=some (.cells c t (0,0)))∧∀u v,W.cell? ⟨b,off,none⟩=some (.iface u v)→Value.okWide P W .any 0 u v)→
   ∃A:Nat→Addr,(∀k,k<l.length→W.cell? ⟨gs k,0,none⟩=some (.iface tp (.pointer (some (A k))))∧MemPlace.cell (A k).block (A k).off∈ps)∧(ps.Nodup→∀j k,j<k→k<l.length→A j≠A k)
 |[],gs,ps,h,hg,hr=>⟨fun _=>⟨0,0,none⟩,fun k hk=>absurd hk (by simp),fun _ j k _ hk=>absurd hk (by simp)⟩
 |x::l,gs,ps,h,hg,hr=>by
  obtain⟨g,t,cs,fuel,p,q,hgn,ht,hv,hd,hq,rfl⟩:=h;obtain⟨hg1,ht1⟩:=hg 0 (by simp);obtain rfl:=Option.some.inj (hg1.symm.trans hgn);obtain rfl:=Option.some.inj (ht1.symm.trans ht)
  have ok0:∀u v,cs.toList=[.iface u v]→Value.okWide P W .any 0 u v:=fun u v e=>by
   obtain⟨l0⟩:=cs;simp only at e;subst e;exact(hr (gs 0) 0 (by simp[MemPlace.row])).2 u v (by simpa using World.var?_cell hgn hv 0)
  obtain⟨a,s,hcl,ha,_,_,rfl⟩:=errorString_of_trod hi hrow hp he hft hfo hs hc hcs hd ok0
  obtain⟨A,h1,h2⟩:=rK hi hrow hp he hft hfo hs hc hcs l (fun k=>gs (k+1)) q hq
   (fun k hk=>by
     have:=hg (k+1) (by simpa using hk);simpa using this)
   (fun b off hm=>hr b off (by simp[hm]))
  refine⟨fun k=>match k with|0=>a|k+1=>A k,fun k hk=>?_,fun hnd j k hjk hk=>?_⟩
  ·match k,hk with
   |0,_=>
    have:=World.var?_cell hgn hv 0;rw[Array.eq_one_of_toList hcl] at this;exact⟨by simpa using this,by simp[MemPlace.row]⟩
   |k+1,hk=>
    have:=h1 k (by simpa using hk);refine⟨this.1,?_⟩
    ·simp only[List.mem_append];exact Or.inr this.2
  ·have hq':q.Nodup:=(List.nodup_append.1 hnd).2.1
   match j,k,hjk,hk with
   |0,k+1,_,hk=>
    have h3:=(h1 k (by simpa using hk)).2
    show a≠A k
    rintro rfl;exact(List.nodup_append.1 hnd).2.2 (MemPlace.cell (A k).block (A k).off) (by simp[MemPlace.row]) _ h3 rfl
   |j+1,k+1,hjk,hk=>exact h2 hq' j k (by omega) (by simpa using hk)
def uZ:List (String×List UInt8):=[("enclose/enclose.ErrFloat",[110,111,32,112,108,97,105,110,32,102,108,111,97,116]),
 ("enclose/enclose.ErrOrder",[101,110,100,115,32,105,110,32,116,104,101,32,119,114,111,110,103,32,111,114,100,101,114]),
 ("enclose/enclose.ErrRange",[111,117,116,32,111,102,32,114,97,110,103,101]),
 ("enclose/enclose.ErrZero",[100,105,118,105,115,105,111,110,32,98,121,32,119,104,97,116,32,104,111,108,100,115,32,48]),
 ("enclose/enclose.ErrNegative",[114,111,111,116,32,111,102,32,119,104,97,116,32,105,115,32,98,101,108,111,119,32,48]),
 ("enclose/enclose.ErrEmpty",[110,111,116,104,105,110,103,32,105,110,32,99,111,109,109,111,110]),
 ("enclose/enclose.ErrName",[110,111,32,115,117,99,104,32,111,112,101,114,97,116,105,111,110]),
 ("enclose/enclose.ErrShape",[119,114,111,110,103,32,115,104,97,112,101]),
 ("enclose/enclose.ErrSure",[110,111,116,32,115,117,114,101,32,111,102,32,97,110,32,97,110,115,119,101,114])]
def Be:List (String×DataW Unit):=uZ.map fun x=>(x.1,.iface "*errors.errorString" (.ptr (.agg [.lit (.string x.2)])))
def zE:List (String×DataW Unit):=[("errors.errorType",.iface "internal/reflectlite.rtype" (.agg [.ptr (.lit (.string [101,114,114,111,114]))]))]
theorem CS:(List.range 9).all (fun k=>match uZ[k]? with|some x=>Tryz.prog.globalNamed x.1==some (gix k) &&(Tryz.prog.globals[gix k]?).map (·.type)==some 70|none=>false)=true:=by kernel_rfl
theorem H8:Tryz.prog.globalNamed "errors.errorType" =some 9:=by kernel_rfl
theorem H7:(Tryz.prog.cutTypes.find? (·.1== "internal/reflectlite.rtype")).map (·.2)=some 216:=by kernel_rfl
theorem DI:((List.range 263).filter fun t=>Tryz.prog.rowNamed t [101,114,114,111,114])=[70]:=by kernel_rfl
theorem Gx:Tryz.prog.types.size=263:=by kernel_rfl
theorem De: "*" ++ "errors.errorString" = "*errors.errorString" :=by decide
theorem G8 (u:TypeId) (h:Tryz.prog.typeName? 3 u=some "*errors.errorString"):u=229:=
 typeName_ptr_named (nm:= "errors.errorString") (by rw[De];kernel_rfl) (by kernel_rfl) (by decide) u (by rw[De];exact h)
theorem CA:Tryz.prog.cellsOf 251=1:=by kernel_rfl
theorem EH:Tryz.prog.cellsOf 9=1:=by kernel_rfl
theorem uG {W:World} (hd:laidMet Tryz.prog Be W) (hh:handlesMet Tryz.prog zE W):∃A,aE A W:=by
 obtain⟨ps,hv,hnd,hr⟩:=hd
 obtain⟨A,h1,h2⟩:=rK (P:=Tryz.prog) Tryz.underlying70 G8 Tryz.underlying229 Tryz.underlying251 rfl rfl Tryz.underlying9 CA EH uZ gix ps hv
  (fun k hk=>by
    have:=List.all_eq_true.1 CS k (List.mem_range.2 hk);rw[List.getElem?_eq_getElem hk] at this;simpa using this) hr
 have hl:uZ.length=9:=rfl;rw[hl] at h1 h2;refine⟨A,?_,fun k hk=>by simpa using (h1 k hk).1,fun k hk=>(hr _ _ (h1 k hk).2).1,h2 hnd⟩;obtain⟨name,u,ty,e1,e2,e3,e4,e5⟩:=hh _ (List.mem_singleton.2 rfl);have en:name=[101,114,114,111,114]:=(Option.some.inj e1).symm;subst en;obtain rfl:=Option.some.inj (H7.symm.trans e2);have hm:ty∈(List.range 263).filter fun t=>Tryz.prog.rowNamed t [101,114,114,111,114]:=List.mem_filter.2 ⟨List.mem_range.2 (by rw[←Gx];exact e3),e4⟩
 rw[DI] at hm;obtain rfl:=List.mem_singleton.1 hm;have hh:typeHandle Tryz.prog 70= .pointer (some ⟨11,70,none⟩):=by kernel_rfl
 rw[hh] at e5;simpa using World.var?_cell H8 e5 0
end
end Go.Proofs.YtonhpkigoplmaaaGreatDoor
