import Derived.Test.YtonhpkigoplmaaaGreatDoorZ28
set_option maxRecDepth 100000
set_option maxHeartbeats 40000000
namespace Go.Proofs.YtonhpkigoplmaaaGreatDoor
section
open Go.RowKit
theorem A6 (ao:Option Addr) (n c:Nat) (xs:Nat→Nat×Nat) (w:World) (h:BxV w ao n xs) (hn:n*16≤140737488355328):
  ax 85 #[.slice ao n c] w fun e w'=>∃bo bc,e= .returned (.slice bo n bc)∧BxV w' bo n xs∧n≤bc∧(n=0→bo=none∧bc=0)∧Below w.heap.size w w':=by
 obtain⟨i0,hi,hz0,hz1,hz2⟩:=info_parts pI;have HW:=hid h;clear h;go_enter Tryz.func85,Tryz.ntmps85;go_wp2
 go_loopw [3,4] (fun v x wr=>∃i:Nat,i≤n∧x=iV (i:Int)∧wr.ownsRow w.heap.size 28 2 v i (bxs xs i)∧(i=0→v= .slice none 0 0)∧Below w.heap.size w wr) (fun _ x _=>n-(intOf x).toNat)
 case atStart=>exact⟨0,Nat.zero_le _,rfl,World.ownsRow_nil _ _ _ _,fun _=>rfl,Below.refl _ _⟩
 case round=>
  obtain⟨i,hi1,rfl,hown,hz,hb⟩:=hrel;have HO:=hid hown;have HB:=hid hb;have HZ:=hid hz;clear hown hb hz;by_cases hin:i<n
  ·obtain⟨g,off,rfl,hg,hc⟩:=HW.out.resolve_left (by omega);obtain⟨c1,c2⟩:=hc i hin;rw[←HB.out.cell (by exact hg)] at c1 c2;have HX:Hid (bxs xs (i+1)=bxs xs i++[uV ((xs i).1:Int),uV ((xs i).2:Int)]):=lh xs i;generalize(xs i).1=y1 at*;generalize(xs i).2=y2 at*;have HOD:Hid (wr.drew.ownsRow w.heap.size 28 2 _ i (bxs xs i)):=HO.out;have HBD:Hid (Below w.heap.size w wr.drew):=HB.out.drew;clear hc hg HW HO HB HZ;go_wp2_with fail
   go_region_law (first
    |(refine d7 rfl _ _ 61 rfl w.heap.size 28 i0 (.agg #[uV 0,uV 0]) 2 16 Tryz.underlying61 hi hz0 hz1 hz2 rfl (by decide) _ i (bxs xs i) rfl (HOD.out.alloc _) ⟨_,0,none⟩ 1 1 [nV y1,nV y2] rfl rfl (jt (af _ _)) (by simp[Value.oneCell']) (by unfold maxLen;omega) (by omega) (by have:=HBD.out.size;simp at this⊢;omega) ?_
      intro v' w1 hown' hgrow;have HB2:=hid (eQ HOD.out HBD.out ae hgrow);have HO2:Hid (w1.ownsRow w.heap.size 28 2 v' (i+1) (bxs xs (i+1))):=by rw[HX.out];exact hown'
      clear hown' hgrow))
   all_goals(go_wp2;go_roundw)
   all_goals first|exact⟨i+1,by omega,by go_num,HO2.out,fun h=>by omega,HB2.out⟩|(simp[intOf];omega)
  ·have e:i=n:=by omega
   subst e;obtain⟨bo,bc,rfl,hc,hv⟩:=BxV.of_bxs HO.out;have HV:=hid hv;have HC:=hid hc
   have HZ2:Hid (i=0→bo=none∧bc=0):=fun h0=>by
    have:=HZ.out h0
    cases this
    exact⟨rfl,rfl⟩
   clear HO hc hv HZ;go_wp2
   go_ret
   exact⟨bo,bc,rfl,HV.out,HC.out,HZ2.out,HB.out⟩
theorem Bo (ao:Option Addr) (n c:Nat) (ps:Nat→Nat) (w:World) (h:WdV w ao n ps) (hn:n*8≤140737488355328):
  ax 83 #[.slice ao n c] w fun e w'=>∃bo bc,e= .returned (.slice bo (n / 2) bc)∧BxV w' bo (n / 2) (fun i=>(ps (i*2),ps (i*2+1)))∧n / 2≤bc∧Below w.heap.size w w':=by
 obtain⟨i0,hi,hz0,hz1,hz2⟩:=info_parts pI;have HW:=hid h;clear h;obtain⟨xs,hxs⟩:∃xs:Nat→Nat×Nat,xs=fun i=>(ps (i*2),ps (i*2+1)):=⟨_,rfl⟩
 rw[←hxs];go_enter Tryz.func83,Tryz.ntmps83;go_wp2
 go_loopw [3,4] (fun v x wr=>∃i:Nat,i≤n / 2∧x=iV ((i*2:Nat):Int)∧wr.ownsRow w.heap.size 28 2 v i (bxs xs i)∧Below w.heap.size w wr) (fun _ x _=>n-(intOf x).toNat)
 case atStart=>exact⟨0,Nat.zero_le _,rfl,World.ownsRow_nil _ _ _ _,Below.refl _ _⟩
 case round=>
  obtain⟨i,hi1,rfl,hown,hb⟩:=hrel;have HO:=hid hown;have HB:=hid hb;clear hown hb;by_cases hin:i*2+1<n
  ·obtain⟨g,off,rfl,hg,hc⟩:=HW.out.2.resolve_left (by omega);have c1:=hc (i*2) (by omega);have c2:=hc (i*2+1) hin;rw[←HB.out.cell (by exact hg)] at c1 c2
   have HX:Hid (bxs xs (i+1)=bxs xs i++[uV ((ps (i*2):Nat):Int),uV ((ps (i*2+1):Nat):Int)]):=by
    show _=_
    rw[lh,hxs]
   generalize ps (i*2)=y1 at*;generalize ps (i*2+1)=y2 at*;have HOD:Hid (wr.drew.ownsRow w.heap.size 28 2 _ i (bxs xs i)):=HO.out;have HBD:Hid (Below w.heap.size w wr.drew):=HB.out.drew;clear hc hg HW HO HB;generalize hj:i*2=j at*;have g1:decide ((j:Int)+1<(n:Int))=true:=decide_eq_true (by omega);have hj1:j<n:=by omega
   have hj2:j+1<n:=by omega
   have hwr:IntKind.i64.wrap ((j:Int)+1)=(j:Int)+1:=by rw[IntKind.wrap_i64];omega
   have hj3:0≤(j:Int)+1∧(j:Int)+1<(n:Int):=by omega
   go_wp2_with fail
   go_region_law (first
    |(refine d7 rfl _ _ 61 rfl w.heap.size 28 i0 (.agg #[uV 0,uV 0]) 2 16 Tryz.underlying61 hi hz0 hz1 hz2 rfl (by decide) _ i (bxs xs i) rfl (HOD.out.alloc _) ⟨_,0,none⟩ 1 1 [nV y1,nV y2] rfl rfl (jt (af _ _)) (by simp[Value.oneCell']) (by unfold maxLen;omega) (by omega) (by have:=HBD.out.size;simp at this⊢;omega) ?_
      intro v' w1 hown' hgrow;have HB2:=hid (eQ HOD.out HBD.out ae hgrow);have HO2:Hid (w1.ownsRow w.heap.size 28 2 v' (i+1) (bxs xs (i+1))):=by rw[HX.out];exact hown'
      clear hown' hgrow))
   all_goals(go_wp2;go_roundw)
   all_goals first|exact⟨i+1,by omega,by rw[←hj];go_num,HO2.out,HB2.out⟩|(simp[intOf];omega)
  ·have e:i=n / 2:=by omega
   have g1:decide ((((i*2:Nat):Int))+1<(n:Int))=false:=decide_eq_false (by omega);rw[e] at HO;obtain⟨bo,bc,rfl,hc,hv⟩:=BxV.of_bxs HO.out;have HV:=hid hv;have HC:=hid hc;clear HO hc hv;go_wp2
   go_ret
   exact⟨bo,bc,rfl,HV.out,HC.out,HB.out⟩
end
end Go.Proofs.YtonhpkigoplmaaaGreatDoor
