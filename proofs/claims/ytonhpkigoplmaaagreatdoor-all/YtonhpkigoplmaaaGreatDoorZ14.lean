import Derived.Test.YtonhpkigoplmaaaGreatDoorZ04
import Derived.Deep.DeepCutAuto
import Derived.SizedLaws
set_option maxRecDepth 100000
set_option maxHeartbeats 40000000
namespace Go.Proofs.YtonhpkigoplmaaaGreatDoor
section
open Go.RowKit
structure LSt (w W:World) (c:Array Value):Prop where
 k0:W.heap[w.heap.size]?=some (.cells c 31 (0,0))
 hb:Below w.heap.size w W
 sz:w.heap.size+1≤W.heap.size
theorem LSt.below {w W W':World} {c:Array Value} (m:LSt w W c) (hb:Below W.heap.size W W'):LSt w W' c:=⟨aa m.k0 hb,m.hb.trans (hb.mono m.hb.size),Nat.le_trans m.sz hb.size⟩
theorem LSt.alloc {w W:World} {c:Array Value} (m:LSt w W c) (o:Obj):LSt w (W.alloc o) c:=m.below (aK.alloc ae o)
theorem LSt.drew {w W:World} {c:Array Value} (m:LSt w W c):LSt w W.drew c:=⟨m.k0,m.hb.drew,m.sz⟩
theorem LSt.cells {w W:World} {c0 c1 c2 c3 c4 c5 c6 c7 c8:Value} (m:LSt w W #[c0,c1,c2,c3,c4,c5,c6,c7,c8]):W.cell? ⟨w.heap.size,1,none⟩=some c1∧W.cell? ⟨w.heap.size,3,none⟩=some c3∧W.cell? ⟨w.heap.size,4,none⟩=some c4∧W.cell? ⟨w.heap.size,5,none⟩=some c5∧W.cell? ⟨w.heap.size,6,none⟩=some c6∧W.cell? ⟨w.heap.size,7,none⟩=some c7:=by
 obtain⟨-,k1,-,k3,k4,k5,k6,k7,-⟩:=qH m.k0;exact⟨k1,k3,k4,k5,k6,k7⟩
def bZ (w W:World) (g:Nat) (x y:Value):Prop:=W.heap[g]?=some (.cells #[x,y] 33 (0,0))∧w.heap.size+1≤g
theorem bZ.below {w W W':World} {g:Nat} {x y:Value} (h:bZ w W g x y) (hb:Below W.heap.size W W'):bZ w W' g x y:=⟨aa h.1 hb,h.2⟩
theorem bZ.drew {w W:World} {g:Nat} {x y:Value} (h:bZ w W g x y):bZ w W.drew g x y:=h
theorem bZ.new {w W:World} {x y:Value} (h:w.heap.size+1≤W.heap.size):bZ w (W.alloc (.cells #[x,y] 33)) W.heap.size x y:=⟨af W _,h⟩
theorem bZ.same {w W:World} {g:Nat} {x y:Value} (h:bZ w W g x y) (u v:Value):bZ w ((W.setCell ⟨g,0,none⟩ u).setCell ⟨g,1,none⟩ v) g u v:=⟨aA h.1,h.2⟩
theorem LSt.set2 {w W:World} {g:Nat} {x y:Value} {c:Array Value} (m:LSt w W c) (z:bZ w W g x y) (u v:Value):LSt w ((W.setCell ⟨g,0,none⟩ u).setCell ⟨g,1,none⟩ v) c:=by
 have e0:w.heap.size≠g:=by have:=z.2;omega
 have e3:w.heap.size≤g:=by have:=z.2;omega
 exact⟨aG (aG m.k0 e0) e0,(m.hb.setCell (by exact e3) _).setCell (by exact e3) _,by simp only[World.size_setCell];exact m.sz⟩
theorem xB (A:Nat→Addr) (a b:Int) (s:ByteArray) (xl xh yl yh:Nat) (po:Option Addr) (pl pc:Nat) (r1 r2 r3:Nat) (rs:ByteArray) (w:World) (hS:aE A w)
  (hp:∀W,aE A W→aw 21 #[iV a,gU xl xh,gU yl yh] W (.tuple #[gU r1 r2,iV (r3:Int),.string rs]))
  (hq:∀W,aw 29 #[iV a,gU xl xh,gU yl yh] W (.tuple #[gU r1 r2,iV (r3:Int),.string rs])):
  aw 18 #[.agg #[Value.int IntKind.i64 2,Value.int IntKind.i64 a,Value.int IntKind.i64 b,Value.string s,Value.int IntKind.u64 (xl:Int),Value.int IntKind.u64 (xh:Int),Value.int IntKind.u64 (yl:Int),Value.int IntKind.u64 (yh:Int),Value.slice po pl pc]] w (.bool true):=by
 have HP:Hid (∀W,Below w.heap.size w W→aw 21 #[iV a,gU xl xh,gU yl yh] W (.tuple #[gU r1 r2,iV (r3:Int),.string rs])):=fun W hb=>hp W (hS.below hb ae)
 have HQ:=hid hq;have H1:Hid (∀W,aw 26 #[gU xl xh] W (gU xl xh)):=fun W=>eH _ _ W
 have H2:Hid (∀W,aw 26 #[gU yl yh] W (gU yl yh)):=fun W=>eH _ _ W
 clear hp hq hS;go_enter Tryz.func18,Tryz.ntmps18;go_wp2_with fail;have m1:Hid (LSt w (w.alloc (.cells #[iV 2,iV a,iV b,.string s,nV xl,nV xh,nV yl,nV yh,.slice po pl pc] 31)) #[Value.int IntKind.i64 2,Value.int IntKind.i64 a,Value.int IntKind.i64 b,Value.string s,Value.int IntKind.u64 (xl:Int),Value.int IntKind.u64 (xh:Int),Value.int IntKind.u64 (yl:Int),Value.int IntKind.u64 (yh:Int),Value.slice po pl pc]):=⟨af w _,aK.alloc ae _,by simp⟩;generalize(w.alloc (.cells #[iV 2,iV a,iV b,.string s,nV xl,nV xh,nV yl,nV yh,.slice po pl pc] 31))=W2 at*
 go_cut [8,9,10] (fun s8 s9 s10 wc=>∃g,s8= .pointer (some ⟨g,0,none⟩)∧s9=iV (r3:Int)∧s10= .string rs∧LSt w wc #[Value.int IntKind.i64 2,Value.int IntKind.i64 a,Value.int IntKind.i64 b,Value.string s,Value.int IntKind.u64 (xl:Int),Value.int IntKind.u64 (xh:Int),Value.int IntKind.u64 (yl:Int),Value.int IntKind.u64 (yh:Int),Value.slice po pl pc]∧bZ w wc g (nV r1) (nV r2))
 case first=>
  have iN:=hid m1.out.drew
  go_region_held3 (fun W=>W.cell? ⟨w.heap.size,1,none⟩=some (.int .i64 a)∧W.cell? ⟨w.heap.size,3,none⟩=some (.string s)∧W.cell? ⟨w.heap.size,4,none⟩=some (.int .u64 (xl:Int))∧W.cell? ⟨w.heap.size,5,none⟩=some (.int .u64 (xh:Int))∧W.cell? ⟨w.heap.size,6,none⟩=some (.int .u64 (yl:Int))∧W.cell? ⟨w.heap.size,7,none⟩=some (.int .u64 (yh:Int))) (first|with_reducible exact iN.out.cells|with_reducible exact(m1.out.alloc _).drew.cells|with_reducible exact(iN.out.alloc _).cells|with_reducible exact(iN.out.set2 zf.out _ _).cells)
   (first
     |(go_at_call 26;with_reducible (refine (H1.out _).mono ?_);rintro e v0 ⟨rfl,hbk⟩
       have iN:=hid (iN.out.below hbk);clear hbk)
     |(go_at_call 26;with_reducible (refine (H1.out _).mono ?_);rintro e v0 ⟨rfl,hbk⟩
       have zf:=hid ((bZ.new m1.out.sz).drew.below hbk);have iN:=hid ((m1.out.alloc _).drew.below hbk);clear hbk)
     |(go_at_call 26;with_reducible (refine (H2.out _).mono ?_);rintro e v1 ⟨rfl,hbk⟩
       try(have zf:Hid (bZ w v1 _ _ _):=zf.out.below hbk)
       have iN:=hid (iN.out.below hbk);clear hbk)
     |(go_at_call 26;with_reducible (refine (H2.out _).mono ?_);rintro e v1 ⟨rfl,hbk⟩
       have zf:=hid ((bZ.new iN.out.sz).below hbk);have iN:=hid ((iN.out.alloc _).below hbk);clear hbk)
     |(go_at_call 21;with_reducible (refine (HP.out _ ?_).mono ?_);(with_reducible exact iN.out.hb);rintro e v2 ⟨rfl,hbk⟩
       try(have zf:Hid (bZ w v2 _ _ _):=zf.out.below hbk;obtain⟨zc0,zc1,zc2,zc3⟩:=aj zf.out.1)
       have iN:=hid (iN.out.below hbk);clear hbk)
     |(go_at_call 21;with_reducible (refine (HP.out _ ?_).mono ?_);(with_reducible exact(iN.out.alloc _).hb);rintro e v2 ⟨rfl,hbk⟩
       have zf:=hid ((bZ.new iN.out.sz).below hbk);obtain⟨zc0,zc1,zc2,zc3⟩:=aj zf.out.1;have iN:=hid ((iN.out.alloc _).below hbk);clear hbk))
  all_goals(go_wp2_with fail;go_meet;refine⟨_,rfl,rfl,rfl,?_,?_⟩)
  all_goals first|with_reducible exact iN.out.set2 zf.out _ _|with_reducible exact zf.out.same _ _|with_reducible exact iN.out.alloc _|with_reducible exact bZ.new iN.out.sz
 case rest=>
  clear HP H1 H2 m1;obtain⟨g,rfl,rfl,rfl,hL,hB⟩:=hcut;have ML:=hid hL;have MB:=hid hB;obtain⟨k1,k3,k4,k5,k6,k7⟩:=hL.cells;clear hL hB;go_wp2_with fail;refine (HQ.out _).mono ?_;rintro e w3 ⟨rfl,hb3⟩;have ML3:=hid (ML.out.below hb3);obtain⟨j0,j1,-,-⟩:=aj (MB.out.below hb3).1;have lj:=ag (MB.out.below hb3).1;clear hb3 k1 k3 k4 k5 k6 k7 ML MB HQ;go_wp2_with fail;refine(iZ _ _ _).mono ?_;rintro e w4 ⟨rfl,hb4⟩;have hbD:=(ML3.out.hb.alloc ML3.out.hb.size _).trans (hb4.mono (by have:=ML3.out.hb.size;simp;omega));clear ML3 hb4 j0 j1 lj;go_wp2
  go_ret
  exact⟨rfl,hbD⟩
theorem p6 (A:Nat→Addr) (a b:Int) (s:ByteArray) (xl xh yl yh:Nat) (po:Option Addr) (pl pc:Nat) (r1 r2 r3:Nat) (rs:ByteArray) (w:World) (hS:aE A w)
  (hp:∀W,aE A W→aw 30 #[.string s,gU xl xh,gU yl yh] W (.tuple #[gU r1 r2,iV (r3:Int),.string rs]))
  (hq:∀W,aw 31 #[.string s,gU xl xh,gU yl yh] W (.tuple #[gU r1 r2,iV (r3:Int),.string rs])):
  aw 18 #[.agg #[Value.int IntKind.i64 3,Value.int IntKind.i64 a,Value.int IntKind.i64 b,Value.string s,Value.int IntKind.u64 (xl:Int),Value.int IntKind.u64 (xh:Int),Value.int IntKind.u64 (yl:Int),Value.int IntKind.u64 (yh:Int),Value.slice po pl pc]] w (.bool true):=by
 have HP:Hid (∀W,Below w.heap.size w W→aw 30 #[.string s,gU xl xh,gU yl yh] W (.tuple #[gU r1 r2,iV (r3:Int),.string rs])):=fun W hb=>hp W (hS.below hb ae)
 have HQ:=hid hq;have H1:Hid (∀W,aw 26 #[gU xl xh] W (gU xl xh)):=fun W=>eH _ _ W
 have H2:Hid (∀W,aw 26 #[gU yl yh] W (gU yl yh)):=fun W=>eH _ _ W
 clear hp hq hS;go_enter Tryz.func18,Tryz.ntmps18;go_wp2_with fail;have m1:Hid (LSt w (w.alloc (.cells #[iV 3,iV a,iV b,.string s,nV xl,nV xh,nV yl,nV yh,.slice po pl pc] 31)) #[Value.int IntKind.i64 3,Value.int IntKind.i64 a,Value.int IntKind.i64 b,Value.string s,Value.int IntKind.u64 (xl:Int),Value.int IntKind.u64 (xh:Int),Value.int IntKind.u64 (yl:Int),Value.int IntKind.u64 (yh:Int),Value.slice po pl pc]):=⟨af w _,aK.alloc ae _,by simp⟩;generalize(w.alloc (.cells #[iV 3,iV a,iV b,.string s,nV xl,nV xh,nV yl,nV yh,.slice po pl pc] 31))=W2 at*
 go_cut [15,16,17] (fun s8 s9 s10 wc=>∃g,s8= .pointer (some ⟨g,0,none⟩)∧s9=iV (r3:Int)∧s10= .string rs∧LSt w wc #[Value.int IntKind.i64 3,Value.int IntKind.i64 a,Value.int IntKind.i64 b,Value.string s,Value.int IntKind.u64 (xl:Int),Value.int IntKind.u64 (xh:Int),Value.int IntKind.u64 (yl:Int),Value.int IntKind.u64 (yh:Int),Value.slice po pl pc]∧bZ w wc g (nV r1) (nV r2))
 case first=>
  have iN:=hid m1.out.drew
  go_region_held3 (fun W=>W.cell? ⟨w.heap.size,1,none⟩=some (.int .i64 a)∧W.cell? ⟨w.heap.size,3,none⟩=some (.string s)∧W.cell? ⟨w.heap.size,4,none⟩=some (.int .u64 (xl:Int))∧W.cell? ⟨w.heap.size,5,none⟩=some (.int .u64 (xh:Int))∧W.cell? ⟨w.heap.size,6,none⟩=some (.int .u64 (yl:Int))∧W.cell? ⟨w.heap.size,7,none⟩=some (.int .u64 (yh:Int))) (first|with_reducible exact iN.out.cells|with_reducible exact(m1.out.alloc _).drew.cells|with_reducible exact(iN.out.alloc _).cells|with_reducible exact(iN.out.set2 zf.out _ _).cells)
   (first
     |(go_at_call 26;with_reducible (refine (H1.out _).mono ?_);rintro e v0 ⟨rfl,hbk⟩
       have iN:=hid (iN.out.below hbk);clear hbk)
     |(go_at_call 26;with_reducible (refine (H1.out _).mono ?_);rintro e v0 ⟨rfl,hbk⟩
       have zf:=hid ((bZ.new m1.out.sz).drew.below hbk);have iN:=hid ((m1.out.alloc _).drew.below hbk);clear hbk)
     |(go_at_call 26;with_reducible (refine (H2.out _).mono ?_);rintro e v1 ⟨rfl,hbk⟩
       try(have zf:Hid (bZ w v1 _ _ _):=zf.out.below hbk)
       have iN:=hid (iN.out.below hbk);clear hbk)
     |(go_at_call 26;with_reducible (refine (H2.out _).mono ?_);rintro e v1 ⟨rfl,hbk⟩
       have zf:=hid ((bZ.new iN.out.sz).below hbk);have iN:=hid ((iN.out.alloc _).below hbk);clear hbk)
     |(go_at_call 30;with_reducible (refine (HP.out _ ?_).mono ?_);(with_reducible exact iN.out.hb);rintro e v2 ⟨rfl,hbk⟩
       try(have zf:Hid (bZ w v2 _ _ _):=zf.out.below hbk;obtain⟨zc0,zc1,zc2,zc3⟩:=aj zf.out.1)
       have iN:=hid (iN.out.below hbk);clear hbk)
     |(go_at_call 30;with_reducible (refine (HP.out _ ?_).mono ?_);(with_reducible exact(iN.out.alloc _).hb);rintro e v2 ⟨rfl,hbk⟩
       have zf:=hid ((bZ.new iN.out.sz).below hbk);obtain⟨zc0,zc1,zc2,zc3⟩:=aj zf.out.1;have iN:=hid ((iN.out.alloc _).below hbk);clear hbk))
  all_goals(go_wp2_with fail;go_meet;refine⟨_,rfl,rfl,rfl,?_,?_⟩)
  all_goals first|with_reducible exact iN.out.set2 zf.out _ _|with_reducible exact zf.out.same _ _|with_reducible exact iN.out.alloc _|with_reducible exact bZ.new iN.out.sz
 case rest=>
  clear HP H1 H2 m1;obtain⟨g,rfl,rfl,rfl,hL,hB⟩:=hcut;have ML:=hid hL;have MB:=hid hB;obtain⟨k1,k3,k4,k5,k6,k7⟩:=hL.cells;clear hL hB;go_wp2_with fail;refine (HQ.out _).mono ?_;rintro e w3 ⟨rfl,hb3⟩;have ML3:=hid (ML.out.below hb3);obtain⟨j0,j1,-,-⟩:=aj (MB.out.below hb3).1;have lj:=ag (MB.out.below hb3).1;clear hb3 k1 k3 k4 k5 k6 k7 ML MB HQ;go_wp2_with fail;refine(iZ _ _ _).mono ?_;rintro e w4 ⟨rfl,hb4⟩;have hbD:=(ML3.out.hb.alloc ML3.out.hb.size _).trans (hb4.mono (by have:=ML3.out.hb.size;simp;omega));clear ML3 hb4 j0 j1 lj;go_wp2
  go_ret
  exact⟨rfl,hbD⟩
end
section
open Go.RowKit Go.Deep Go.ChangeShapes Go.WideShapes
def WdV (W:World) (ao:Option Addr) (n:Nat) (ps:Nat→Nat):Prop:=
 (∀i,i<n→ps i<18446744073709551616)∧(n=0∨∃g off,ao=some ⟨g,off,none⟩∧g<W.heap.size∧∀i,i<n→W.cell? ⟨g,off+i,none⟩=some (uV (ps i:Int)))
theorem WdV.below {W W':World} {ao:Option Addr} {n:Nat} {ps:Nat→Nat} (h:WdV W ao n ps) (hb:Below W.heap.size W W'):WdV W' ao n ps:=by
 refine⟨h.1,?_⟩;rcases h.2 with h0|⟨g,off,e,hg,hc⟩
 ·exact .inl h0
 ·exact .inr ⟨g,off,e,Nat.lt_of_lt_of_le hg hb.size,fun i hi=>by rw[hb.cell (by exact hg)];exact hc i hi⟩
section
variable {H:Type} {enc:TypeId×Value→H} {W:World} {base:Nat} {spare:Nat→Bool} {held:Bool}
theorem yg:Tryz.prog.bytesOf 26=8:=by kernel_rfl
theorem mM {P:Program} {e:TypeId}:∀{l:List (DataW H)} {d:DataW H},d∈l→∀k∈d.weights P e,k∈DataW.weightsAll P e l
 |x::l,d,hd,k,hk=>by
  simp only[DataW.weightsAll,List.mem_append];rcases List.mem_cons.1 hd with rfl|h
  ·exact .inl hk
  ·exact .inr (mM h k hk)
theorem Ed {fuel:Nat} {po:Option Addr} {pl pc:Nat} {x:DataW H×List MemPlace} (h:DataW.trod enc Tryz.prog W base spare held fuel 29 [.slice po pl pc]=some x):(∃ps,WdV W po pl ps)∧(pl=0∨∃k∈x.1.weights Tryz.prog 29,pl*8≤k):=by
 rcases open_slice Tryz.underlying29 h with⟨h0,hx⟩|⟨a,len,cap,m,f,D,Pl,h0,hb,hl,hm,hmm,hx,hall⟩
 ·simp at h0;obtain⟨rfl,rfl,rfl⟩:=h0;exact⟨⟨fun _=>0,fun i hi=>by omega,.inl rfl⟩,.inl rfl⟩
 ·simp at h0;obtain⟨rfl,rfl,rfl⟩:=h0;have hmn:pl≤m:=by rw[hmm];split<;>omega
  rw[pY] at hall
  have hop:∀i,i<pl→∃t:Nat,W.cell? (a.add (i*1))=some (nV t)∧t<18446744073709551616:=by
   intro i hi;obtain⟨cs',h1,h2⟩:=hall i (by omega);obtain⟨-,hlen,hc⟩:=World.cells?_some h1;obtain⟨p,e0,_,w0⟩:=DataW.trod_int Tryz.underlying26 h2;obtain⟨l,rfl,hl⟩:=wD w0;have:=hc 0 (by omega);rw[e0] at this;simp[Addr.add] at this;exact⟨l,by simpa[Addr.add] using this,hl⟩
  obtain⟨F,hF⟩:=choose_lt (α:=Nat) hop;subst hx;refine⟨⟨F,fun i hi=>(hF i hi).2,?_⟩,.inr ⟨(pl+(m-pl))*Tryz.prog.bytesOf 26,by simp[DataW.weights,Tryz.underlying29],by rw[yg];omega⟩⟩;by_cases hn:pl=0
  ·exact .inl hn
  ·right;obtain⟨g,off,spot⟩:=a;have h00:=(hF 0 (by omega)).1;have hspot:spot=none:=by simpa[Addr.add] using World.cell?_spot h00
   subst hspot
   have ea:∀j,(Addr.mk g off none).add j=⟨g,off+j,none⟩:=fun j=>by
    by_cases hj:j=0
    ·subst hj;simp[Addr.add]
    ·simp[Addr.add,hj]
   refine⟨g,off,rfl,?_,fun i hi=>?_⟩
   ·have:=World.block_lt_of_cell? W _ h00;rw[ea] at this;exact this
   ·have:=(hF i hi).1;rwa [Nat.mul_one,ea] at this
theorem Eu {fuel:Nat} {a0 a1 a2 a3 a4 a5 a6 a7:Value} {po:Option Addr} {pl pc:Nat} {x:DataW H×List MemPlace} (h:DataW.trod enc Tryz.prog W base spare held fuel 31 [a0,a1,a2,a3,a4,a5,a6,a7,.slice po pl pc]=some x):(∃ps,WdV W po pl ps)∧(pl=0∨∃k∈x.1.weights Tryz.prog 31,pl*8≤k):=by
 obtain⟨xs,n,_,hxx,hl,hlen,hf⟩:=DataW.trod_struct Tryz.underlying31 h;have hlen7:xs.length=7:=hlen;obtain⟨y6,g6⟩:∃y,xs[6]?=some y:=⟨xs[6]'(by rw[hlen7];omega),List.getElem?_eq_getElem (by rw[hlen7];omega)⟩;have f6:DataW.trod enc Tryz.prog W base spare held n 29 (List.take (Tryz.prog.cellsOf 29) (List.drop 8 [a0,a1,a2,a3,a4,a5,a6,a7,.slice po pl pc]))=some y6:=(hf 6 _ rfl).trans g6;rw[uj] at f6;obtain⟨hw,hk⟩:=Ed (show DataW.trod enc Tryz.prog W base spare held n 29 [.slice po pl pc]=some y6 from f6);refine⟨hw,hk.imp id ?_⟩;rintro⟨k,hk,hle⟩;refine⟨k,?_,hle⟩;subst hxx;simp only[DataW.weights,Tryz.underlying31];exact DataW.weights_mem_each (j:=6) (t:=29) (d:=y6.1) rfl (by rw[List.getElem?_map,g6];rfl) k hk
theorem vg {fuel:Nat} {g off n c:Nat} {d:DataW H} {ps:List MemPlace} (h:DataW.trod enc Tryz.prog W base spare held fuel 22 (Value.slice (some ⟨g,off,none⟩) n c).cells.toList=some (d,ps)) {i:Nat} (hi:i<n) {po:Option Addr} {pl pc:Nat} (h8:W.cell? ⟨g,off+i*9+8,none⟩=some (.slice po pl pc)):(∃q,WdV W po pl q)∧(pl=0∨∃k∈d.weights Tryz.prog 22,pl*8≤k):=by
 have hcs:(Value.slice (some ⟨g,off,none⟩) n c).cells.toList=[.slice (some ⟨g,off,none⟩) n c]:=rfl;rw[hcs] at h;rcases open_slice Tryz.underlying22 h with⟨h0,hx⟩|⟨a,len,cap,m,f,D,Pl,h0,hb,hl,hm,hmm,hx,hall⟩
 ·simp at h0
 ·simp at h0;obtain⟨rfl,rfl,rfl⟩:=h0;have hmn:n≤m:=by rw[hmm];split<;>omega
  rw[oz] at hall;obtain⟨cs',h1,h2⟩:=hall i (by omega);obtain⟨-,-,hc⟩:=World.cells?_some h1;obtain⟨k,a',b',s,xl,xh,yl,yh,po',pl',pc',rfl,-⟩:=vn h2;have e8:=hc 8 (by omega)
  have ea:∀j,(Addr.mk g off none).add j=⟨g,off+j,none⟩:=fun j=>by
   by_cases hj:j=0
   ·subst hj;simp[Addr.add]
   ·simp[Addr.add,hj]
  have ea2:∀i j,((Addr.mk g off none).add i).add j=⟨g,off+i+j,none⟩:=fun i j=>by
   rw[ea];by_cases hj:j=0
   ·subst hj;simp[Addr.add]
   ·simp[Addr.add,hj]
  rw[ea2] at e8;rw[h8] at e8;simp at e8;obtain⟨rfl,rfl,rfl⟩:=e8;obtain⟨hw,hk⟩:=Eu h2;refine⟨hw,hk.imp id ?_⟩;rintro⟨k',hk',hle⟩;refine⟨k',?_,hle⟩;have hd:=(Prod.mk.inj hx).1;subst hd;simp only[DataW.weights,Tryz.underlying22];exact List.mem_cons_of_mem _ (List.mem_append_left _ (mM (List.mem_map.2 ⟨i,List.mem_range.2 hi,rfl⟩) k' hk'))
end
end
section
open Go.RowKit Go.Extern
theorem FN:(Tryz.prog.info? 26).map (fun i=>(i.zero,i.size,i.bytes))=some (some (uV 0),1,8):=by kernel_rfl
theorem sK:(Tryz.prog.info? 65).map (fun i=>(i.zero,i.size,i.bytes))=some (some (fV 0),1,8):=by kernel_rfl
def wvs (ps:Nat→Nat) (n:Nat):List Value:=(List.range n).map fun i=>uV (ps i:Int)
def fvs (ps:Nat→Nat) (n:Nat):List Value:=(List.range n).map fun i=>fV (ps i)
def FlV (W:World) (ao:Option Addr) (n:Nat) (ps:Nat→Nat):Prop:=
 n=0∨∃g off,ao=some ⟨g,off,none⟩∧g<W.heap.size∧∀i,i<n→W.cell? ⟨g,off+i,none⟩=some (fV (ps i))
theorem FlV.below {W W':World} {ao:Option Addr} {n:Nat} {ps:Nat→Nat} (h:FlV W ao n ps) (hb:Below W.heap.size W W'):FlV W' ao n ps:=by
 rcases h with h0|⟨g,off,e,hg,hc⟩
 ·exact .inl h0
 ·exact .inr ⟨g,off,e,Nat.lt_of_lt_of_le hg hb.size,fun i hi=>by rw[hb.cell (by exact hg)];exact hc i hi⟩
theorem WdV.of_owns {w:World} {v:Value} {n B:Nat} {ps:Nat→Nat} (h:w.ownsRow B 26 1 v n (wvs ps n)) (hp:∀i,i<n→ps i<18446744073709551616):∃ao c,v= .slice ao n c∧WdV w ao n ps:=by
 obtain⟨_,h2⟩:=h;rcases h2 with⟨rfl,h0⟩|⟨g,cap,cur,rfl,hg,hh,hn,hcap,hs,ht⟩
 ·subst h0;exact⟨none,0,rfl,hp,.inl rfl⟩
 ·refine⟨_,_,rfl,hp,.inr ⟨g,0,rfl,(Array.getElem?_eq_some_iff.1 hh).1,fun i hi=>?_⟩⟩;have:=congrArg (fun x=>x[i]?) ht;simp only[Nat.mul_one,List.getElem?_take,hi,if_true,Array.getElem?_toList,wvs,List.getElem?_map] at this;rw[bf hh,Nat.zero_add,this];simp[hi]
theorem FlV.of_owns {w:World} {v:Value} {n B:Nat} {ps:Nat→Nat} (h:w.ownsRow B 65 1 v n (fvs ps n)):∃ao c,v= .slice ao n c∧FlV w ao n ps:=by
 obtain⟨_,h2⟩:=h;rcases h2 with⟨rfl,h0⟩|⟨g,cap,cur,rfl,hg,hh,hn,hcap,hs,ht⟩
 ·subst h0;exact⟨none,0,rfl,.inl rfl⟩
 ·refine⟨_,_,rfl,.inr ⟨g,0,rfl,(Array.getElem?_eq_some_iff.1 hh).1,fun i hi=>?_⟩⟩;have:=congrArg (fun x=>x[i]?) ht;simp only[Nat.mul_one,List.getElem?_take,hi,if_true,Array.getElem?_toList,fvs,List.getElem?_map] at this;rw[bf hh,Nat.zero_add,this];simp[hi]
theorem rH (ao:Option Addr) (n c:Nat) (ps:Nat→Nat) (w:World) (h:WdV w ao n ps) (hn:n*8≤140737488355328):
  ax 35 #[.slice ao n c] w fun e w'=>∃bo bc,e= .returned (.slice bo n bc)∧WdV w' bo n ps∧Below w.heap.size w w':=by
 obtain⟨i0,hi,hz0,hz1,hz2⟩:=info_parts FN
 cases ao with
 |none=>
  have h0:n=0:=by
   rcases h.2 with h0|⟨g,off,e,_⟩
   ·exact h0
   ·cases e
  subst h0;go_enter Tryz.func35,Tryz.ntmps35;go_wp2
  go_ret
  exact⟨none,0,rfl,⟨h.1,.inl rfl⟩,Below.refl _ _⟩
 |some a=>
  have HW:=hid h;have hlen:(wvs ps n).length=n:=by unfold wvs;simp
  have hcell:∀j u,(wvs ps n)[j]?=some u→w.cell? (a.add j)=some u:=by
   intro j u hj
   have hjn:j<n:=by
    have:=(List.getElem?_eq_some_iff.1 hj).1;rwa [hlen] at this
   rcases h.2 with h0|⟨g,off,e,hg,hc⟩
   ·omega
   ·obtain rfl:=Option.some.inj e;have:=hc j hjn
    have ea:(Addr.mk g off none).add j=⟨g,off+j,none⟩:=by
     by_cases hj:j=0
     ·subst hj;simp[Addr.add]
     ·simp[Addr.add,hj]
    rw[ea,this];unfold wvs at hj;simp[hjn] at hj;rw[←hj]
  have hone:∀u∈wvs ps n,u.oneCell'=true:=by
   intro u hu;unfold wvs at hu;obtain⟨i,_,rfl⟩:=List.mem_map.1 hu
   rfl
  have HC:=hid hcell;clear h hcell;go_enter Tryz.func35,Tryz.ntmps35
  go_wp2_with (first
   |(at_builtin;refine wpList_append_own _ rfl _ _ 29 rfl w.heap.size 26 i0 (uV 0) 1 8 Tryz.underlying29 hi hz0 hz1 hz2 rfl (by decide) _ _ _ rfl (World.ownsRow_nil _ _ _ _) a n c (wvs ps n) rfl (by rw[hlen];omega) HC.out hone ?c3 ?c4 ?c5 ?_)
   |go_in)
  case c3=>unfold maxLen;omega
  case c4=>omega
  case c5=>exact Nat.le_refl _
  ·intro v' w1 hown' hgrow _;obtain⟨bo,bc,rfl,hv⟩:=WdV.of_owns hown' HW.out.1;have hb:Below w.heap.size w w1:=(Below.refl _ w).grown hgrow (by simp) (fun k hk=>by simp[Value.ownBlock] at hk);clear hown' hgrow;go_wp2
   go_ret
   exact⟨bo,bc,rfl,hv,hb⟩
theorem DZ (ps:Nat→Nat) (i:Nat):fvs ps i++[fV (ps i)]=fvs ps (i+1):=by
 unfold fvs;rw[List.range_succ,List.map_append]
 rfl
theorem rS {B:Nat} {w wr w1:World} {v v':Value} {i:Nat} {ps:Nat→Nat} {X:Obj} (hown:wr.ownsRow B 65 1 v i (fvs ps i)) (hb:Below B w wr) (hB:B≤w.heap.size)
  (hown':w1.ownsRow B 65 1 v' (i+1) (fvs ps i++[fV (ps i)])) (hgrow:(wr.alloc X).grownBy w1 v.ownBlock):
  w1.ownsRow B 65 1 v' (i+1) (fvs ps (i+1))∧Below B w w1:=by
 have hs:=hb.size;refine⟨by rw[←DZ];exact hown',?_⟩;exact(hb.alloc (by omega) X).grown hgrow (by simp;omega) (fun k hk=>(hown.lt k hk).1)
theorem zV (ao:Option Addr) (n c:Nat) (ps:Nat→Nat) (w:World) (h:WdV w ao n ps) (hn:n*8≤140737488355328):
  ax 52 #[.slice ao n c] w fun e w'=>∃bo bc,e= .returned (.slice bo n bc)∧FlV w' bo n ps∧Below w.heap.size w w':=by
 obtain⟨i0,hi,hz0,hz1,hz2⟩:=info_parts sK;have h93:=@run_callFunc_extern Tryz.prog 113 _ MathFloatBits.float64frombits Tryz.func113 (by kernel_rfl) (by kernel_rfl) (by kernel_rfl) (by kernel_rfl);have cf:=iH;have HW:=hid h;clear h;go_enter Tryz.func52,Tryz.ntmps52;go_wp2
 go_loopw [3,5,8] (fun v _ x wr=>∃i:Nat,i≤n∧x=iV (i:Int)∧wr.ownsRow w.heap.size 65 1 v i (fvs ps i)∧Below w.heap.size w wr) (fun _ _ x _=>n-(intOf x).toNat)
 case atStart=>exact⟨0,Nat.zero_le _,rfl,World.ownsRow_nil _ _ _ _,Below.refl _ _⟩
 case round=>
  obtain⟨i,hi1,rfl,hown,hb⟩:=hrel;by_cases hin:i<n
  ·obtain⟨g,off,rfl,hg,hc⟩:=HW.out.2.resolve_left (by omega);have hci:=hc i hin;rw[←hb.cell (by exact hg)] at hci;clear hc
   go_wp2_with (first
    |(at_builtin;refine wpList_append_own _ rfl _ _ 80 rfl w.heap.size 65 i0 (fV 0) 1 8 Tryz.underlying80 hi hz0 hz1 hz2 rfl (by decide) _ _ _ rfl (hown.alloc _) ⟨wr.heap.size,0,none⟩ 1 1 [fV (ps i)] rfl rfl ?c1 ?c2 ?c3 ?c4 ?c5 ?_)
    |go_in)
   case c1=>
    intro j u hj
    match j,hj with
    |0,hj=>simp at hj;subst hj;simp[Addr.add]
   case c2=>intro u hu;simp at hu;subst hu;rfl
   case c3=>unfold maxLen;omega
   case c4=>omega
   case c5=>have:=hb.size;simp;omega
   ·intro v' w1 hown' hgrow _;have R:=rS hown hb ae hown' hgrow;clear hown' hgrow hown hb hci;go_wp2;go_roundw
    case rel=>exact⟨i+1,by omega,by go_num,R.1,R.2⟩
    case measure=>simp[intOf];omega
  ·have e:i=n:=by omega
   subst e;obtain⟨bo,bc,rfl,hv⟩:=FlV.of_owns hown;clear hown;go_wp2
   go_ret
   exact⟨bo,bc,rfl,hv,hb⟩
theorem AX (ao:Option Addr) (n c:Nat) (ps:Nat→Nat) (w:World) (h:WdV w ao n ps) (hn:n*8≤140737488355328):
  ax 52 #[.slice ao n c] w fun e w'=>∃bo bc,e= .returned (.slice bo n bc)∧w'.ownsRow w.heap.size 65 1 (.slice bo n bc) n (fvs ps n)∧Below w.heap.size w w':=by
 obtain⟨i0,hi,hz0,hz1,hz2⟩:=info_parts sK;have h93:=@run_callFunc_extern Tryz.prog 113 _ MathFloatBits.float64frombits Tryz.func113 (by kernel_rfl) (by kernel_rfl) (by kernel_rfl) (by kernel_rfl);have cf:=iH;have HW:=hid h;clear h;go_enter Tryz.func52,Tryz.ntmps52;go_wp2
 go_loopw [3,5,8] (fun v _ x wr=>∃i:Nat,i≤n∧x=iV (i:Int)∧wr.ownsRow w.heap.size 65 1 v i (fvs ps i)∧Below w.heap.size w wr) (fun _ _ x _=>n-(intOf x).toNat)
 case atStart=>exact⟨0,Nat.zero_le _,rfl,World.ownsRow_nil _ _ _ _,Below.refl _ _⟩
 case round=>
  obtain⟨i,hi1,rfl,hown,hb⟩:=hrel;by_cases hin:i<n
  ·obtain⟨g,off,rfl,hg,hc⟩:=HW.out.2.resolve_left (by omega);have hci:=hc i hin;rw[←hb.cell (by exact hg)] at hci;clear hc
   go_wp2_with (first
    |(at_builtin;refine wpList_append_own _ rfl _ _ 80 rfl w.heap.size 65 i0 (fV 0) 1 8 Tryz.underlying80 hi hz0 hz1 hz2 rfl (by decide) _ _ _ rfl (hown.alloc _) ⟨wr.heap.size,0,none⟩ 1 1 [fV (ps i)] rfl rfl ?c1 ?c2 ?c3 ?c4 ?c5 ?_)
    |go_in)
   case c1=>
    intro j u hj
    match j,hj with
    |0,hj=>simp at hj;subst hj;simp[Addr.add]
   case c2=>intro u hu;simp at hu;subst hu;rfl
   case c3=>unfold maxLen;omega
   case c4=>omega
   case c5=>have:=hb.size;simp;omega
   ·intro v' w1 hown' hgrow _;have R:=rS hown hb ae hown' hgrow;clear hown' hgrow hown hb hci;go_wp2;go_roundw
    case rel=>exact⟨i+1,by omega,by go_num,R.1,R.2⟩
    case measure=>simp[intOf];omega
  ·have e:i=n:=by omega
   subst e;have HO:=hown;obtain⟨bo,bc,rfl,hv⟩:=FlV.of_owns hown;have HO2:=hid HO;clear hown HO;go_wp2
   go_ret
   exact⟨bo,bc,rfl,HO2.out,hb⟩
theorem xY {P:Program} (w:World) (d:Nat) (t e:TypeId) (a:Option Addr) (l c:Nat) (h:P.underlying t=some (.slice e)):(Op.equalIn (d+1) t (.slice a l c) (.slice none 0 0)).run P w= .ok a.isNone w:=by
 cases a<;>simp[Op.equalIn,run_underlying h]
theorem Bi {P:Program} (w:World) (t e:TypeId) (a:Option Addr) (l c:Nat) (h:P.underlying t=some (.slice e)):(Op.equal t (.slice a l c) (.slice none 0 0)).run P w= .ok a.isNone w:=xY w 9999 t e a l c h
theorem uc {P:Program} (w:World) (t e:TypeId) (a:Option Addr) (l c:Nat) (h:P.underlying t=some (.slice e)):(binOp .eql t (.slice a l c) (.slice none 0 0)).run P w= .ok (.bool a.isNone) w:=by
 simp[binOp,Bi w t e a l c h]
theorem Da (a:Addr) (n c:Nat) (ps:Nat→Nat) (w:World) (h:FlV w (some a) n ps) (hn:n*8≤140737488355328):
  ax 103 #[.slice (some a) n c] w fun e w'=>∃bo bc,e= .returned (.slice bo n bc)∧w'.ownsRow w.heap.size 65 1 (.slice bo n bc) n (fvs ps n)∧Below w.heap.size w w':=by
 obtain⟨i0,hi,hz0,hz1,hz2⟩:=info_parts sK;have hlen:(fvs ps n).length=n:=by unfold fvs;simp
 have hcell:∀j u,(fvs ps n)[j]?=some u→(w.alloc (.cells #[] 65)).cell? (a.add j)=some u:=by
  intro j u hj
  have hjn:j<n:=by
   have:=(List.getElem?_eq_some_iff.1 hj).1;rwa [hlen] at this
  rcases h with h0|⟨g,off,e,hg,hc⟩
  ·omega
  ·obtain rfl:=Option.some.inj e;have:=hc j hjn
   have ea:(Addr.mk g off none).add j=⟨g,off+j,none⟩:=by
    by_cases hj:j=0
    ·subst hj;simp[Addr.add]
    ·simp[Addr.add,hj]
   rw[ea,((Below.refl _ w).alloc ae _).cell (by exact hg),this];unfold fvs at hj;simp[hjn] at hj;rw[←hj]
 have hone:∀u∈fvs ps n,u.oneCell'=true:=by
  intro u hu;unfold fvs at hu;obtain⟨i,_,rfl⟩:=List.mem_map.1 hu
  rfl
 have hnil:=fun w=>uc (P:=Tryz.prog) w 80 65 (some a) n c Tryz.underlying80
 have HC:=hid hcell;clear h hcell;go_enter Tryz.func103,Tryz.ntmps103
 go_wp2_with (first
  |(at_builtin;refine wpList_append_own _ rfl _ _ 80 rfl w.heap.size 65 i0 (fV 0) 1 8 Tryz.underlying80 hi hz0 hz1 hz2 rfl (by decide) _ _ _ rfl (World.ownsRow_made _ _ _ ae (by decide) (by simp)) a n c (fvs ps n) rfl (by rw[hlen];omega) HC.out hone ?c3 ?c4 ?c5 ?_)
  |go_in)
 case c3=>unfold maxLen;omega
 case c4=>omega
 case c5=>simp
 ·intro v' w1 hown' hgrow _;have hb:=((Below.refl _ w).alloc ae _).grown hgrow (by simp) (fun k hk=>by simp[Value.ownBlock] at hk;omega);obtain⟨bo,bc,rfl,hv⟩:=FlV.of_owns hown';have HO:=hid hown';clear hown' hgrow hv;go_wp2
  go_ret
  exact⟨bo,bc,rfl,HO.out,hb⟩
end
end Go.Proofs.YtonhpkigoplmaaaGreatDoor
