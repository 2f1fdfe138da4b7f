import Derived.Test.YtonhpkigoplmaaaGreatDoorZ28
set_option maxRecDepth 100000
set_option maxHeartbeats 40000000
namespace Go.Proofs.YtonhpkigoplmaaaGreatDoor
section
open Go.RowKit Go.Extern Ieee
def eP (n:Nat) (xs:Nat→Nat×Nat):Prop:=∀i,i<n→fairT (plT (cB (xs i)).1)=true∧fairT (plT (cB (xs i)).2)=true
def Wds (n:Nat) (xs:Nat→Nat×Nat):Prop:=∀i,i<n→(xs i).1<18446744073709551616∧(xs i).2<18446744073709551616
theorem gV (so:Option Addr) (n sc:Nat) (xs:Nat→Nat×Nat) (w:World) (h:BxV w so n xs) (hn:n≤100) (hw:Wds n xs):
  ax 136 #[.slice so n sc] w fun e w'=>∃r,e= .returned (.bool r)∧(r=true↔eP n xs)∧Below w.heap.size w w':=by
 have HW:=hid h;have HD:=hid hw;clear h hw;go_enter Tryz.func136,Tryz.ntmps136;go_wp2
 go_loopw [3] (fun x wr=>∃i:Nat,i≤n∧x=iV (i:Int)∧eP i xs∧Below w.heap.size w wr) (fun x _=>n-(intOf x).toNat)
 case atStart=>exact⟨0,Nat.zero_le _,rfl,fun i hi=>by omega,Below.refl _ _⟩
 case round=>
  obtain⟨i,hi1,rfl,hr,hb⟩:=hrel;have HR:=hid hr;have HB:=hid hb;clear hr hb;by_cases hin:i<n
  ·obtain⟨g,off,rfl,hg,hc⟩:=HW.out.resolve_left (by omega);obtain⟨c1,c2⟩:=hc i hin;rw[←HB.out.cell (by exact hg)] at c1 c2;have hwi:=HD.out i hin;have HM:=hid (du (xs i).1 (xs i).2 hwi.1 hwi.2);have iv:=dZ (xs i).1 (xs i).2 hwi.1 hwi.2;have S1:=hid (ct iv.p1).sm;have S2:=hid (ct iv.p2).sm
   have HRI:Hid (eP (i+1) xs↔(fairT (plT (makeN (xs i).1 (xs i).2).1)=true∧fairT (plT (makeN (xs i).1 (xs i).2).2.1)=true)):=by
    constructor
    ·intro hp;exact hp i (by omega)
    ·intro hp j hj;by_cases hji:j=i
     ·subst hji;exact hp
     ·exact HR.out j (by omega)
   have HRN:Hid (eP n xs→eP (i+1) xs):=fun hp j hj=>hp j (by omega)
   generalize plT (makeN (xs i).1 (xs i).2).1=x at*;generalize plT (makeN (xs i).1 (xs i).2).2.1=y at*;generalize(xs i).1=y1 at*;generalize(xs i).2=y2 at*;clear hc hg HD HR hwi iv;go_wp2_with fail;refine (HM.out _).mono ?_;rintro e w1 ⟨ao,la,ca,bo,lb,cb,rfl,hla,hlb,hna,hnb,hbk⟩;have HB1:=hid (HB.out.trans (hbk.mono HB.out.size));have K0:=af w1 (.cells #[.bool x.1,.slice ao la ca,iV x.2.2,.bool y.1,.slice bo lb cb,iV y.2.2] 98);have ha:Below w1.heap.size w1 (w1.alloc (.cells #[.bool x.1,.slice ao la ca,iV x.2.2,.bool y.1,.slice bo lb cb,iV y.2.2] 98)):=aK.alloc ae _;have N1:=hid (hna.below ha ae);have N2:=hid (hnb.below ha ae);have L1:=hid hla;have L2:=hid hlb;have HB2:=hid (HB1.out.trans (ha.mono HB1.out.size));clear hla hlb hna hnb hbk HM HB HB1 ha c1 c2;go_wp2_with fail;generalize(w1.alloc (.cells #[.bool x.1,.slice ao la ca,iV x.2.2,.bool y.1,.slice bo lb cb,iV y.2.2] 98))=W2 at*;refine (xE x ao la ca W2 S1.out L1.out N1.out).mono ?_;rintro e w3 ⟨rfl,hb3⟩;have K3:=hid (aa K0 hb3);have N3:=hid (N2.out.below hb3 ae);have HB3:=hid (HB2.out.trans (hb3.mono HB2.out.size));clear hb3 N1 N2 K0 HB2;obtain⟨-,-,-,k3,k4,k5,-,-,-,-,-,-⟩:=bH K3.out;have hlt:=ag K3.out;go_wp2_with fail;refine (xE y bo lb cb w3 S2.out L2.out N3.out).mono ?_;rintro e w4 ⟨rfl,hb4⟩;have HB4:=hid (HB3.out.trans (hb4.mono HB3.out.size));clear hb4 HB3 N3 K3 k3 k4 k5;generalize fairT x=r1 at*;generalize fairT y=r2 at*
   cases r1 with
   |false=>
    have HF:Hid (false=true↔eP n xs):=⟨fun h=>(by cases h),fun hp=>by have:=HRI.out.1 (HRN.out hp);exact absurd this.1 (by simp)⟩;go_wp2
    go_ret
    exact⟨false,rfl,HF.out,HB4.out⟩
   |true=>
    cases r2 with
    |false=>
     have HF:Hid (false=true↔eP n xs):=⟨fun h=>(by cases h),fun hp=>by have:=HRI.out.1 (HRN.out hp);exact absurd this.2 (by simp)⟩;go_wp2
     go_ret
     exact⟨false,rfl,HF.out,HB4.out⟩
    |true=>
     have HR2:Hid (eP (i+1) xs):=HRI.out.2 ⟨rfl,rfl⟩;go_wp2;go_roundw
     case rel=>exact⟨i+1,by omega,by go_num,HR2.out,HB4.out⟩
     case measure=>simp[intOf];omega
  ·obtain rfl:n=i:=by omega
   go_wp2
   go_ret
   exact⟨true,rfl,⟨fun _=>HR.out,fun _=>rfl⟩,HB.out⟩
theorem kx (so:Option Addr) (n sc:Nat) (xs:Nat→Nat×Nat) (w:World) (h:BxV w so n xs) (hn:n≤100) (hw:Wds n xs):
  ax 137 #[.slice so n sc] w fun e w'=>∃bo bc,e= .returned (.slice bo n bc)∧BxV w' bo n (fun i=>cB (xs i))∧Below w.heap.size w w':=by
 obtain⟨i0,hI0,hz0,hz1,hz2⟩:=info_parts pI;have HW:=hid h;have HD:=hid hw;clear h hw;go_enter Tryz.func137,Tryz.ntmps137;go_wp2
 go_loopw [3,4] (fun v x wr=>∃i:Nat,i≤n∧x=iV (i:Int)∧wr.ownsRow w.heap.size 28 2 v i (bxs (fun i=>cB (xs i)) i)∧Below w.heap.size w wr) (fun _ x _=>n-(intOf x).toNat)
 case atStart=>exact⟨0,Nat.zero_le _,rfl,World.ownsRow_nil _ _ _ _,Below.refl _ _⟩
 case round=>
  obtain⟨i,hi1,rfl,hown,hb⟩:=hrel;have HO:=hid hown;have HB:=hid hb;clear hown hb;by_cases hin:i<n
  ·obtain⟨g,off,rfl,hg,hc⟩:=HW.out.resolve_left (by omega);obtain⟨c1,c2⟩:=hc i hin;rw[←HB.out.cell (by exact hg)] at c1 c2;have hwi:=HD.out i hin;have HX:Hid (bxs (fun i=>cB (xs i)) (i+1)=bxs (fun i=>cB (xs i)) i++[uV ((makeN (xs i).1 (xs i).2).1:Int),uV ((makeN (xs i).1 (xs i).2).2.1:Int)]):=lh _ i;have HM:Hid (∀W,aw 27 #[.agg #[uV ((xs i).1:Int),uV ((xs i).2:Int)]] W (.tuple #[.agg #[uV ((makeN (xs i).1 (xs i).2).1:Int),uV ((makeN (xs i).1 (xs i).2).2.1:Int)],iV ((makeN (xs i).1 (xs i).2).2.2:Int)])):=fun W=>jS _ _ W hwi.1 hwi.2
   generalize(makeN (xs i).1 (xs i).2).1=z1 at*;generalize(makeN (xs i).1 (xs i).2).2.1=z2 at*;generalize(makeN (xs i).1 (xs i).2).2.2=z3 at*;generalize(xs i).1=y1 at*;generalize(xs i).2=y2 at*;clear hc hg HW HD hwi;go_wp2_with fail;refine (HM.out _).mono ?_;rintro e w1 ⟨rfl,hb1⟩;have ha:Below w1.heap.size w1 (w1.alloc (.cells #[nV z1,nV z2] 28)):=aK.alloc ae _;have HO:=hid (aH (aH HO.out hb1 ae) ha ae);have hbb:=HB.out.trans (hb1.mono HB.out.size);have HB:=hid (hbb.trans (ha.mono hbb.size));have hsz:=HB.out.size;have K0:=af w1 (.cells #[nV z1,nV z2] 28);clear hb1 c1 c2 ha hbb HM
   go_upto_region 6 with fail
   generalize(w1.alloc (.cells #[nV z1,nV z2] 28))=W2 at*;obtain⟨x0,x1,-,-⟩:=aj K0;have hlt:=ag K0
   go_wp2_with (first
    |(at_builtin;refine wpList_append_own _ rfl _ _ 61 rfl w.heap.size 28 i0 (.agg #[uV 0,uV 0]) 2 16 Tryz.underlying61 hI0 hz0 hz1 hz2 rfl (by decide) _ _ _ rfl (HO.out.alloc _) ⟨W2.heap.size,0,none⟩ 1 1 [nV z1,nV z2] rfl rfl lZ ?c2 ?c3 ?c4 ?c5 ?_)
    |go_in)
   case c2=>intro u hu;simp at hu;rcases hu with rfl|rfl<;>rfl
   case c3=>unfold maxLen;omega
   case c4=>omega
   case c5=>first|omega|(simp at hsz⊢;omega)
   ·intro v' w2 hown' hgrow _;have HB2:=hid (eQ HO.out HB.out ae hgrow);rw[←HX.out] at hown';have HO2:=hid hown';clear hown' hgrow HO HB;go_wp2;go_roundw
    case rel=>exact⟨i+1,by omega,by go_num,HO2.out,HB2.out⟩
    case measure=>simp[intOf];omega
  ·obtain rfl:n=i:=by omega
   obtain⟨bo,bc,rfl,hc,hv⟩:=BxV.of_bxs HO.out;have HV:=hid hv;clear HO hc hv;go_wp2
   go_ret
   exact⟨bo,bc,rfl,HV.out,HB.out⟩
def rwM (d i:Nat):Nat:=(i+d-1) / d
def rwL (d i j:Nat):Nat:=min d (i-j*d)
theorem le5 {d:Nat} (h0:d≠0) (h:d≤5):d=1∨d=2∨d=3∨d=4∨d=5:=by omega
theorem GG {d i:Nat} (h0:d≠0) (h5:d≤5) (h:i % d=0):rwM d (i+1)=rwM d i+1∧(∀j,j<rwM d i→rwL d i j=rwL d (i+1) j)∧rwL d (i+1) (rwM d i)=1∧rwM d i*d=i:=by
 unfold rwM rwL;rcases le5 h0 h5 with rfl|rfl|rfl|rfl|rfl<;>refine⟨by omega,fun j hj=>by omega,by omega,by omega⟩
theorem GU {d i:Nat} (h0:d≠0) (h5:d≤5) (h:i % d≠0):∃l,rwM d i=l+1∧rwM d (i+1)=l+1∧rwL d (i+1) l=rwL d i l+1∧l*d+rwL d i l=i∧∀j,j<l→rwL d i j=rwL d (i+1) j:=by
 unfold rwM rwL;rcases le5 h0 h5 with rfl|rfl|rfl|rfl|rfl
 ·omega
 ·exact⟨i / 2,by omega,by omega,by omega,by omega,fun j hj=>by omega⟩
 ·exact⟨i / 3,by omega,by omega,by omega,by omega,fun j hj=>by omega⟩
 ·exact⟨i / 4,by omega,by omega,by omega,by omega,fun j hj=>by omega⟩
 ·exact⟨i / 5,by omega,by omega,by omega,by omega,fun j hj=>by omega⟩
theorem CT (d i j:Nat):rwL d i j≤d:=by unfold rwL;omega
theorem Bh {d i:Nat} (h5:d≤5):rwM d i≤i+1:=by
 unfold rwM;by_cases h0:d=0
 ·subst h0;simp
 ·rcases le5 h0 h5 with rfl|rfl|rfl|rfl|rfl<;>omega
theorem Aa {na d n:Nat} (h5:d≤5) (hz:d=0→na=0):iC n (rwM d na) (rwL d na)↔Shp na d n:=by
 unfold iC Shp;constructor
 ·rintro⟨h0,h4,hm,hl⟩;by_cases hd:d=0
  ·exfalso;rw[hz hd,hd] at hm;simp[rwM] at hm;omega
  ·refine⟨h0,h4,hd,?_⟩;rcases(show n=1∨n=2∨n=3∨n=4 by omega) with rfl|rfl|rfl|rfl
   ·have a:=hl 0 (by omega);unfold rwM at hm;unfold rwL at a;rcases le5 hd h5 with rfl|rfl|rfl|rfl|rfl<;>omega
   ·have a:=hl 0 (by omega);have b:=hl 1 (by omega);unfold rwM at hm;unfold rwL at a b;rcases le5 hd h5 with rfl|rfl|rfl|rfl|rfl<;>omega
   ·have a:=hl 0 (by omega);have b:=hl 2 (by omega);unfold rwM at hm;unfold rwL at a b;rcases le5 hd h5 with rfl|rfl|rfl|rfl|rfl<;>omega
   ·have a:=hl 0 (by omega);have b:=hl 3 (by omega);unfold rwM at hm;unfold rwL at a b;rcases le5 hd h5 with rfl|rfl|rfl|rfl|rfl<;>omega
 ·rintro⟨h0,h4,hd,h⟩;refine⟨h0,h4,?_,fun i hi=>?_⟩
  ·unfold rwM;rcases h with⟨rfl,rfl⟩|⟨h1,rfl,rfl⟩
   ·rcases le5 hd h5 with rfl|rfl|rfl|rfl|rfl<;>omega
   ·rcases(show d=1∨d=2∨d=3∨d=4 by omega) with rfl|rfl|rfl|rfl<;>omega
  ·unfold rwL;rcases h with⟨rfl,rfl⟩|⟨h1,rfl,rfl⟩
   ·rcases le5 hd h5 with rfl|rfl|rfl|rfl|rfl<;>omega
   ·rcases(show d=1∨d=2∨d=3∨d=4 by omega) with rfl|rfl|rfl|rfl<;>omega
def cY (d n:Nat) (P Qb:Nat→Nat×Nat):Nat→Nat→Nat×Nat:=augW n (fun j x=>cB (P (j*d+x))) (fun j=>cB (Qb j))
def sd (na d n:Nat) (P Qb:Nat→Nat×Nat) (k len:Nat) (xs:Nat→Nat×Nat):Prop:=
 (¬Shp na d n∧k=8∧len=0)∨(Shp na d n∧(((∃y x,y<n∧x≤n∧ef (cY d n P Qb y x)=true)∧k=3∧len=0)∨((∀y x,y<n→x≤n→ef (cY d n P Qb y x)=false)∧
  ((dC muX suX quX pvX n (cY d n P Qb) (fun _=>(0,0))=none∧k=9∧len=0)∨(dC muX suX quX pvX n (cY d n P Qb) (fun _=>(0,0))=some xs∧k=0∧len=n)))))
theorem Es (na d n:Nat) (P Qb:Nat→Nat×Nat):∃k len xs,sd na d n P Qb k len xs:=by
 unfold sd;by_cases h1:Shp na d n
 ·by_cases h2:∃y x,y<n∧x≤n∧ef (cY d n P Qb y x)=true
  ·exact⟨3,0,fun _=>(0,0),.inr ⟨h1,.inl ⟨h2,rfl,rfl⟩⟩⟩
  ·have h3:∀y x,y<n→x≤n→ef (cY d n P Qb y x)=false:=fun y x hy hx=>by
    cases h:ef (cY d n P Qb y x)
    ·rfl
    ·exact absurd ⟨y,x,hy,hx,h⟩ h2
   cases h:dC muX suX quX pvX n (cY d n P Qb) (fun _=>(0,0)) with
   |none=>exact⟨9,0,fun _=>(0,0),.inr ⟨h1,.inr ⟨h3,.inl ⟨rfl,rfl,rfl⟩⟩⟩⟩
   |some g=>exact⟨0,n,g,.inr ⟨h1,.inr ⟨h3,.inr ⟨rfl,rfl,rfl⟩⟩⟩⟩
 ·exact⟨8,0,fun _=>(0,0),.inl ⟨h1,rfl,rfl⟩⟩
theorem Rws.congr {b bl:Nat} {W:World} {v:Value} {m m':Nat} {hv:Nat→Value} {ln ln':Nat→Nat} {R R':Nat→Nat→Nat×Nat} (s:Rws b bl W v m hv ln R) (hm:m=m') (h1:∀j,j<m→ln j=ln' j) (h2:∀j x,j<m→x<ln j→R j x=R' j x):Rws b bl W v m' hv ln' R':=by
 subst hm
 have key:∀j,j<m→ivs (R j) (ln j)=ivs (R' j) (ln' j):=fun j hj=>by
  rw[←h1 j hj];exact oW fun x hx=>h2 j x hj hx
 refine⟨s.own,fun j hj=>?_,fun l hl=>?_,s.low,s.ge,s.le⟩
 ·rw[←key j hj,←h1 j hj];exact s.row j hj
 ·rw[←key l (by omega),←h1 l (by omega)];exact s.last l hl
theorem Rws.nil (b:Nat) (W:World) (hv:Nat→Value) (ln:Nat→Nat) (R:Nat→Nat→Nat×Nat) (hb:b≤W.heap.size):Rws b b W (.slice none 0 0) 0 hv ln R:=
 ⟨⟨rfl,.inl ⟨rfl,rfl⟩⟩,fun j hj=>by omega,fun l hl=>by omega,fun i k hi=>by omega,Nat.le_refl _,hb⟩
def RwI (b:Nat) (W:World) (v:Value) (d i:Nat) (C:Nat→Nat×Nat):Prop:=∃bl hv,Rws b bl W v (rwM d i) hv (rwL d i) (fun j x=>C (j*d+x))
structure RwP (b:Nat) (W:World) (v:Value) (d i:Nat) (C:Nat→Nat×Nat) (bl l g c k:Nat) (hl:Value) (r:Nat→Nat×Nat):Prop where
 e:v= .slice (some ⟨g,0,none⟩) (l+1) c
 cell:W.cell? ⟨g,l,none⟩=some hl
 nf:W.frozen? ⟨g,l,none⟩=false
 own:W.ownsRow bl 67 2 hl k (ivs r k)
 gb:b≤g
 glt:g<W.heap.size
 le:bl≤W.heap.size
 bb:b≤bl
 k5:k≤5
 li:l≤i
 step:∀W2,Below W.heap.size W W2→∀W1 u',W1.ownsRow bl 67 2 u' (k+1) (ivs r k++[fV (C i).1,fV (C i).2])→W2.grownBy W1 hl.ownBlock→(W1.cell? ⟨g,l,none⟩=some hl∧W1.frozen? ⟨g,l,none⟩=false)∧RwI b (W1.setCell ⟨g,l,none⟩ u') v d (i+1) C
theorem Rws.head {b bl:Nat} {W:World} {v:Value} {l:Nat} {hv:Nat→Value} {ln:Nat→Nat} {R:Nat→Nat→Nat×Nat} (s:Rws b bl W v (l+1) hv ln R):∃g c,v= .slice (some ⟨g,0,none⟩) (l+1) c∧W.cell? ⟨g,l,none⟩=some (hv l)∧W.frozen? ⟨g,l,none⟩=false∧b≤g∧g<W.heap.size:=by
 obtain⟨g,c,e,hg,hc,h⟩:=s.cells (by omega);refine⟨g,c,e,h l (by omega),?_,hg,bL (h l (by omega))⟩;subst e;obtain⟨-,cur,h1⟩:=da s.own (g:=g) (by simp[Value.ownBlock]);simp[World.frozen?,h1]
theorem Rws.grown {b bl:Nat} {W W1:World} {l g c:Nat} {hv:Nat→Value} {ln:Nat→Nat} {R:Nat→Nat→Nat×Nat} (s:Rws b bl W (.slice (some ⟨g,0,none⟩) (l+1) c) (l+1) hv ln R) (hg:W.grownBy W1 (hv l).ownBlock):W1.cell? ⟨g,l,none⟩=some (hv l)∧W1.frozen? ⟨g,l,none⟩=false:=by
 have hT:(67:TypeId)≠86:=by decide
 have own1:=dS s.own hg fun k hk hk'=>lC s.own (s.row l (by omega)) hT.symm hk hk'
 obtain⟨-,⟨e,-⟩|⟨g',c',cur,e,-,h1,h2,h3,h4,h5⟩⟩:=own1
 ·cases e
 ·cases e
  refine⟨?_,by simp[World.frozen?,h1]⟩;rw[bf h1,←Array.getElem?_toList,←List.getElem?_take_of_lt (show l<(l+1)*1 by omega),h5,List.getElem?_map,List.getElem?_range (by omega)]
  rfl
theorem RwI.below {b:Nat} {W W':World} {v:Value} {d i:Nat} {C:Nat→Nat×Nat} (s:RwI b W v d i C) (hb:Below W.heap.size W W'):RwI b W' v d i C:=by
 obtain⟨bl,hv,s⟩:=s;exact⟨bl,hv,s.below hb⟩
theorem RwI.old {b:Nat} {W:World} {v:Value} {d i:Nat} {C:Nat→Nat×Nat} (s:RwI b W v d i C) (h0:d≠0) (h5:d≤5) (h:i % d≠0):∃bl l g c k hl r,RwP b W v d i C bl l g c k hl r:=by
 obtain⟨bl,hv,s⟩:=s;obtain⟨l,h1,h2,h3,h4,h6⟩:=GU h0 h5 h;rw[h1] at s;obtain⟨g,c,e,hc,hf,hgb,hgl⟩:=s.head;refine⟨bl,l,g,c,rwL d i l,hv l,fun x=>C (l*d+x),e,hc,hf,s.last l rfl,hgb,hgl,s.le,s.ge,Nat.le_trans (CT _ _ _) h5,?_,fun W2 hb2 W1 u' ho hg=>?_⟩
 ·have:=Nat.le_mul_of_pos_right l (Nat.pos_of_ne_zero h0);omega
 subst e;have s:=s.below hb2;refine⟨s.grown hg,bl,upd hv l u',(s.push (p:=C i) ho hg).congr h2.symm (fun j hj=>?_) (fun j x hj hx=>?_)⟩
 ·by_cases hjl:j=l
  ·subst hjl;rw[aN];exact h3.symm
  ·rw[bn hjl];exact h6 j (by omega)
 ·by_cases hjl:j=l
  ·subst hjl;rw[aN];by_cases hxl:x=rwL d i j
   ·subst hxl;rw[aN,h4]
   ·rw[bn hxl]
  ·rw[bn hjl]
theorem RwI.new {b:Nat} {W W':World} {v v':Value} {d i:Nat} {C:Nat→Nat×Nat} {hv:Nat→Value} {bl:Nat} (s:Rws b bl W v (rwM d i) hv (rwL d i) (fun j x=>C (j*d+x))) (h0:d≠0) (h5:d≤5) (h:i % d=0) (hb:b≤W.heap.size)
  (ho:W'.ownsRow b 86 1 v' (rwM d i+1) ((List.range (rwM d i)).map hv++[.slice none 0 0])) (hg:W.grownBy W' v.ownBlock):∃bl l g c k hl r,RwP b W' v' d i C bl l g c k hl r:=by
 obtain⟨h1,h2,h3,h4⟩:=GG h0 h5 h;have t:=s.push_nil hb ho hg;obtain⟨g,c,e,hc,hf,hgb,hgl⟩:=t.head;have hrow:=t.last (rwM d i) rfl;rw[aN] at hc;rw[aN,aN] at hrow;refine⟨W.heap.size,rwM d i,g,c,0,.slice none 0 0,fun x=>C (rwM d i*d+x),e,hc,hf,hrow,hgb,hgl,t.le,t.ge,by omega,?_,fun W2 hb2 W1 u' ho1 hg1=>?_⟩
 ·have:=Nat.le_mul_of_pos_right (rwM d i) (Nat.pos_of_ne_zero h0);omega
 subst e;have t2:=t.below hb2;have tg:=t2.grown (by rw[aN];exact hg1);rw[aN] at tg;refine⟨tg,_,_,(t2.push (u':=u') (p:=C i) (by rw[aN];exact ho1) (by rw[aN];exact hg1)).congr h1.symm (fun j hj=>?_) (fun j x hj hx=>?_)⟩
 ·by_cases hjl:j=rwM d i
  ·subst hjl;rw[aN,aN];exact h3.symm
  ·rw[bn hjl,bn hjl];exact h2 j (by omega)
 ·by_cases hjl:j=rwM d i
  ·subst hjl;rw[aN,aN];by_cases hx0:x=0
   ·subst hx0;rw[aN,Nat.add_zero,h4]
   ·rw[bn hx0]
  ·rw[bn hjl]
end
section
open Go.RowKit Go.Extern Ieee
attribute [local go_sem] av
theorem Dw (A:Nat→Addr) (na d nb:Nat) (P Qb:Nat→Nat×Nat) (k len:Nat) (xs:Nat→Nat×Nat) (hi:sd na d nb P Qb k len xs) (h5:d≤5) (hz:d=0→na=0) (hna:na≤100) (hnb:nb<4611686018427387904)
  (hP:∀i,i<na→(P i).1<18446744073709551616∧(P i).2<18446744073709551616) (hQ:∀i,i<nb→(Qb i).1<18446744073709551616∧(Qb i).2<18446744073709551616)
  (b:Nat) (W:World) (hS:aE A W) (v8 v11:Value) (h8:RwI b W v8 d na (fun i=>cB (P i))) (h11:W.ownsRow b 67 2 v11 nb (ivs (fun i=>cB (Qb i)) nb)):
  ax 54 #[v8,v11] W fun e w'=>∃vl ve,e= .returned (.tuple #[vl,ve])∧aR A w' ve k ⟨#[]⟩∧Below W.heap.size W w'∧((len=0∧vl= .slice none 0 0)∨(len≠0∧len≤4∧∃g,vl= .slice (some ⟨g,0,none⟩) len len∧W.heap.size≤g∧bI w' g len xs)):=by
 obtain⟨bl,hv,s⟩:=h8;obtain⟨bo,bc,rfl⟩:=i7 h11;have sq:=Aa (n:=nb) h5 hz;have hm:=Bh (d:=d) (i:=na) h5;rcases hi with⟨hn,rfl,rfl⟩|⟨hs,hi⟩
 ·obtain⟨ro,rc,rfl⟩:=i7 s.own;refine(Ce A ro bo (rwM d na) rc nb bc (rwL d na) W hS s.heads (by omega) hnb (fun i _=>by have:=CT d na i;omega) (fun h=>hn (sq.1 h))).mono ?_;rintro e w' ⟨hbl,rfl⟩;exact⟨_,_,rfl,.inr (.inl ⟨7,by omega,rfl,rfl,rfl⟩),hbl,.inl ⟨rfl,rfl⟩⟩
 ·have hq:=sq.2 hs;have hs2:=hs;obtain⟨h0,h4,hd,hsh⟩:=hs2;have em:rwM d na=nb:=hq.2.2.1;have hq2:iC nb nb (rwL d na):=by rw[em] at hq;exact hq
  rw[em] at s;obtain⟨ga,ca,gA,cA,rfl,hA,hR⟩:=s.good hq2;obtain⟨gB,bc',e,hgB,hcB,hB⟩:=bI.of_owns h11 h0
  cases e
  have idx:∀y x,y<nb→x<nb→y*d+x<na:=by
   intro y x hy hx;rcases hsh with⟨rfl,rfl⟩|⟨-,rfl,rfl⟩
   ·have:y=0:=by omega
    subst this;omega
   ·have:(y+1)*d≤d*d:=Nat.mul_le_mul_right d (by omega);rw[Nat.succ_mul] at this;omega
  have iv:∀y x,y<nb→x≤nb→ivW (cY d nb P Qb y x):=by
   intro y x hy hx;unfold cY augW;split
   ·rename_i hlt
    have:=hP _ (idx y x hy hlt);exact dZ _ _ this.1 this.2
   ·have:=hQ y hy;exact dZ _ _ this.1 this.2
  refine(AN A ga nb ca gB bc gA cA (fun j x=>cB (P (j*d+x))) (fun j=>cB (Qb j)) W hS h0 h4 hA hR hB iv _ rfl).mono ?_;rintro e w' ⟨hbl,⟨⟨y,x,hy,hx,ho⟩,rfl⟩|⟨hno,hres⟩⟩
  ·rcases hi with⟨-,rfl,rfl⟩|⟨hno,-⟩
   ·exact⟨_,_,rfl,.inr (.inl ⟨2,by omega,rfl,rfl,rfl⟩),hbl,.inl ⟨rfl,rfl⟩⟩
   ·have:=hno y x hy hx;unfold cY at this;rw[ho] at this
    cases this
  ·rcases hi with⟨⟨y,x,hy,hx,ho⟩,-⟩|⟨-,hi⟩
   ·have:=hno y x hy hx;unfold cY at ho;rw[ho] at this
    cases this
   ·rcases hres with⟨g,gf,e1,rfl,hgf,hrow,-⟩|⟨e1,rfl⟩
    ·rcases hi with⟨e2,-,-⟩|⟨e2,rfl,rfl⟩
     ·unfold cY at e2;rw[e2] at e1
      cases e1
     ·unfold cY at e2;rw[e2] at e1
      cases e1
      exact⟨_,_,rfl,.inl ⟨rfl,rfl,rfl⟩,hbl,.inr ⟨h0,h4,gf,rfl,hgf,hrow⟩⟩
    ·rcases hi with⟨-,rfl,rfl⟩|⟨e2,-,-⟩
     ·exact⟨_,_,rfl,.inr (.inl ⟨8,by omega,rfl,rfl,rfl⟩),hbl,.inl ⟨rfl,rfl⟩⟩
     ·unfold cY at e2;rw[e2] at e1
      cases e1
end
section
open Go.RowKit Go.Extern Ieee
attribute [local go_sem] av
theorem tz (A:Nat→Addr) (ao bo:Option Addr) (na ac d nb bc:Nat) (P Qb:Nat→Nat×Nat) (k len:Nat) (xs:Nat→Nat×Nat) (w:World) (hS:aE A w) (ha:BxV w ao na P) (hb:BxV w bo nb Qb) (hi:sd na d nb P Qb k len xs) (h5:d≤5) (hz:d=0→na=0) (hna:na≤100) (hnb:nb*16≤140737488355328)
  (hP:∀i,i<na→(P i).1<18446744073709551616∧(P i).2<18446744073709551616) (hQ:∀i,i<nb→(Qb i).1<18446744073709551616∧(Qb i).2<18446744073709551616):
  ax 24 #[.slice ao na ac,iV (d:Int),.slice bo nb bc] w fun e w'=>∃oo oc,e= .returned (.tuple #[.slice oo len oc,iV (k:Int)])∧BxV w' oo len xs∧len≤oc∧(len=0→oo=none∧oc=0)∧Below w.heap.size w w':=by
 obtain⟨i1,hi1,hy0,hy1,hy2⟩:=info_parts q7;obtain⟨i0,hi0,hz0,hz1,hz2⟩:=info_parts Bb;obtain⟨i2,hi2,hx0,hx1,hx2⟩:=info_parts Cu;have HA:=hid ha;have HB:=hid hb;have HS:=hid hS;have HV:Hid (∀(W:World) (v8 v11:Value),Below w.heap.size w W→RwI w.heap.size W v8 d na (fun i=>cB (P i))→W.ownsRow w.heap.size 67 2 v11 nb (ivs (fun i=>cB (Qb i)) nb)→ax 54 #[v8,v11] W fun e w'=>∃vl ve,e= .returned (.tuple #[vl,ve])∧aR A w' ve k ⟨#[]⟩∧Below W.heap.size W w'∧((len=0∧vl= .slice none 0 0)∨(len≠0∧len≤4∧∃g,vl= .slice (some ⟨g,0,none⟩) len len∧W.heap.size≤g∧bI w' g len xs))):=fun W v8 v11 hbW h8 h11=>Dw A na d nb P Qb k len xs hi h5 hz hna (by omega) hP hQ w.heap.size W (hS.below hbW ae) v8 v11 h8 h11
 have HM:Hid (∀(W:World) (i:Nat),Below w.heap.size w W→i<na→aw 40 #[.agg #[uV ((P i).1:Int),uV ((P i).2:Int)]] W (.agg #[fV (cB (P i)).1,fV (cB (P i)).2])):=fun W i hW hi=>gh A _ _ W (hP i hi).1 (hP i hi).2 (hS.below hW ae)
 have HN:Hid (∀(W:World) (i:Nat),Below w.heap.size w W→i<nb→aw 40 #[.agg #[uV ((Qb i).1:Int),uV ((Qb i).2:Int)]] W (.agg #[fV (cB (Qb i)).1,fV (cB (Qb i)).2])):=fun W i hW hi=>gh A _ _ W (hQ i hi).1 (hQ i hi).2 (hS.below hW ae)
 have HZ:=hid hz;have H5:=hid h5;clear ha hb hS hi hP hQ hz h5;go_enter Tryz.func24,Tryz.ntmps24;go_wp2_with fail
 go_loopw [8,24] (fun v x wr=>∃i:Nat,i≤na∧x=iV (i:Int)∧RwI w.heap.size wr v d i (fun i=>cB (P i))∧Below w.heap.size w wr) (fun _ x _=>na-(intOf x).toNat)
 case atStart=>exact⟨0,Nat.zero_le _,rfl,⟨w.heap.size,fun _=>.slice none 0 0,by
  have e:rwM d 0=0:=by
   unfold rwM;by_cases h:d=0
   ·subst h;rfl
   ·exact Nat.div_eq_of_lt (by omega)
  rw[e];exact Rws.nil _ _ _ _ _ ae⟩,Below.refl _ _⟩
 case round=>
  obtain⟨i,hin,rfl,hrw,hbw⟩:=hrel;have HRW:=hid hrw;have HBW:=hid hbw;clear hrw hbw;by_cases hi:i<na
  ·have hd0:d≠0:=fun h=>by have:=HZ.out h;omega
   obtain⟨g,off,rfl,hg,hc⟩:=HA.out.resolve_left (by omega);obtain⟨c1,c2⟩:=hc i hi;rw[←HBW.out.cell (by exact hg)] at c1 c2;have hgl:g<wr.heap.size:=Nat.lt_of_lt_of_le hg HBW.out.size;have HMi:Hid (∀W:World,Below w.heap.size w W→aw 40 #[.agg #[uV ((P i).1:Int),uV ((P i).2:Int)]] W (.agg #[fV (cB (P i)).1,fV (cB (P i)).2])):=fun W hW=>HM.out W i hW hi
   have g1:decide ((d:Int)>0)=true:=decide_eq_true (by omega);have g2:((d:Int)==0)=false:=by rw[beq_eq_false_iff_ne];omega
   have HG:=hid hg;clear hc hg HM HN HV HA HB HS HZ;have hg:g<wr.heap.size:=hgl
   go_upto_if 36 with fail
   go_cut [8] (fun s8 wc=>∃bl l g c k hl r,RwP w.heap.size wc s8 d i (fun i=>cB (P i)) bl l g c k hl r∧wc.heap[wr.heap.size]?=some (.cells #[uV ((P i).1:Int),uV ((P i).2:Int)] 33 (0,0))∧Below w.heap.size w wc)
   case first=>
    have K0:=hid (af wr (.cells #[uV ((P i).1:Int),uV ((P i).2:Int)] 33));have ha:Below wr.heap.size wr (wr.alloc (.cells #[uV ((P i).1:Int),uV ((P i).2:Int)] 33)):=aK.alloc ae _;have RW:=hid (HRW.out.below ha);have HB0:=hid (HBW.out.trans (ha.mono HBW.out.size));clear HRW HBW ha;generalize(wr.alloc (.cells #[uV ((P i).1:Int),uV ((P i).2:Int)] 33))=W1 at*;by_cases hm:i % d=0
    ·have g3:(((i:Int).tmod (d:Int))==0)=true:=by
      rw[beq_iff_eq,Int.tmod_eq_emod_of_nonneg (by omega)];omega
     have g4:(((i:Int) %(d:Int))==0)=true:=by rw[beq_iff_eq];omega
     obtain⟨bl,hv,hrs⟩:=RW.out;have RS:=hid hrs;have hsz:=HB0.out.size;have hml:=Bh (d:=d) (i:=i) H5.out;obtain⟨so,sc,rfl⟩:=i7 hrs.own;clear hrs RW
     go_wp2_with (first
      |(at_builtin;refine wpList_append_own _ rfl _ _ 85 rfl w.heap.size 86 i0 (.slice none 0 0) 1 24 Tryz.underlying85 hi0 hz0 hz1 hz2 rfl (by decide) _ _ _ rfl (RS.out.own.alloc _) ⟨W1.heap.size,0,none⟩ 1 1 [.slice none 0 0] rfl rfl qM ?c2 ?c3 ?c4 ?c5 ?_)
      |go_in)
     case c2=>first|rfl|(intro u hu;simp at hu;rcases hu with rfl;rfl)
     case c3=>unfold maxLen;omega
     case c4=>omega
     case c5=>first|omega|(simp;omega)
     ·intro v' w5 hown' hgrow _;have PB:=hid (eQ RS.out.own HB0.out ae hgrow);have ha:Below W1.heap.size W1 (W1.alloc (.cells #[.slice none 0 0] 86)):=aK.alloc ae _;obtain⟨bl',l',g',c',k',hl',r',hp⟩:=RwI.new (C:=fun i=>cB (P i)) (RS.out.below ha) hd0 H5.out hm (by simp;omega) hown' hgrow;have PP:=hid hp
      have K5:Hid (w5.heap[wr.heap.size]?=some (.cells #[uV ((P i).1:Int),uV ((P i).2:Int)] 33 (0,0))):=by
       have h:=aa K0.out ha
       show _=_
       rw[hgrow.block _ (ag h) ?_]
       ·exact h
       ·intro hu;obtain⟨-,cur,hc⟩:=da RS.out.own hu.symm;rw[aa hc ha] at h
        cases h
      clear hown' hgrow RS K0 HB0 hp ha;go_wp2_with fail;go_meet;exact⟨bl',l',g',c',k',hl',r',PP.out,K5.out,PB.out⟩
    ·have g3:(((i:Int).tmod (d:Int))==0)=false:=by
      rw[beq_eq_false_iff_ne,Int.tmod_eq_emod_of_nonneg (by omega)];omega
     have g4:(((i:Int) %(d:Int))==0)=false:=by rw[beq_eq_false_iff_ne];omega
     obtain⟨bl',l',g',c',k',hl',r',hp⟩:=RW.out.old hd0 H5.out hm;have PP:=hid hp;clear hp RW;go_wp2_with fail;go_meet;exact⟨bl',l',g',c',k',hl',r',PP.out,K0.out,HB0.out⟩
   case rest=>
    obtain⟨bl,l,g',c',k',hl,r,hp,hk,hbc⟩:=hcut;obtain⟨ho,hoc,rfl⟩:=i7 hp.own;obtain rfl:=hp.e;have PP:=hid hp;have K0:=hid hk;have HBC:=hid hbc;have cg:=hp.cell;have cf:=hp.nf;have hgl':=hp.glt;have hli:=hp.li;have h5k:=hp.k5;obtain⟨x0,x1,-,-⟩:=aj hk;have hlx:=ag hk;have g4:decide (((l+1:Nat):Int)>0)=true:=decide_eq_true (by omega);have hwl:IntKind.i64.wrap ((l:Nat):Int)=(l:Int):=by rw[IntKind.wrap_i64];omega
    have hl2:0≤(l:Int)∧(l:Int)<(l:Int)+1:=by omega
    have hl3:l<l+1:=by omega
    generalize(P i).1=p1 at*;generalize(P i).2=p2 at*;generalize hC:(fun i=>cB (P i))=C at*;have hCi:cB (P i)=C i:=by rw[←hC]
    rw[hCi] at HMi;clear hp hk hbc c1 c2 HRW HBW HG hg;have iN:Hid (BTt wc wc.drew):=⟨aK.drew⟩;have HBD:Hid (Below w.heap.size w wc.drew):=HBC.out.drew;go_wp2_with fail
    go_region_law (first
     |(refine d7 rfl _ _ 86 rfl bl 67 i1 (gF 0 0) 2 16 Tryz.underlying86 hi1 hy0 hy1 hy2 rfl (by decide) _ k' (ivs r k') rfl (OW.out.alloc _) ⟨_,0,none⟩ 1 1 [fV (C i).1,fV (C i).2] rfl rfl (jt (af _ _)) (by simp[Value.oneCell']) (by unfold maxLen;omega) (by omega) (Nat.le_trans PP.out.le (iN.out.alloc _).hb.size) ?_
       intro v' w1 hown' hgrow;obtain⟨vo,vc,rfl⟩:=i7 hown';obtain⟨⟨s1,s2⟩,st⟩:=PP.out.step _ (iN.out.alloc _).hb w1 _ hown' hgrow;have ST:=hid st;have BW:Hid (Below w.heap.size w w1):=((HBC.out.trans ((iN.out.alloc _).hb.mono HBC.out.size))).grown hgrow (Nat.le_trans HBC.out.size (iN.out.alloc _).hb.size) (fun k hk=>Nat.le_trans PP.out.bb (wq OW.out hk));clear hown' hgrow OW st)
     |(rw[if_pos (by rfl)]
       go_simp
       go_at_call 40
       refine (HMi.out _ ?_).mono ?_
       ·exact HBD.out
       rintro e v0 ⟨rfl,hbk⟩;have iN:Hid (BTt wc v0):=iN.out.below hbk;have OW:Hid (v0.ownsRow bl 67 2 (.slice ho k' hoc) k' (ivs r k')):=aH PP.out.own iN.out.hb ae;have cg:v0.cell? ⟨g',l,none⟩=some (.slice ho k' hoc):=by rw[iN.out.hb.cell (by exact hgl')];exact PP.out.cell
       have hgl2:g'<v0.heap.size:=Nat.lt_of_lt_of_le hgl' iN.out.hb.size;clear hbk))
    all_goals(go_wp2;go_roundw)
    all_goals subst hC
    all_goals first|exact⟨i+1,by omega,by go_num,ST.out,BW.out.setCell (by exact PP.out.gb) _⟩|((repeat apply Exists.intro);exact⟨⟨i+1,by omega,by go_num,ST.out,BW.out.setCell (by exact PP.out.gb) _⟩,rfl⟩)|(simp[intOf];omega)
  ·obtain rfl:i=na:=by omega
   have HW2:=hid HBW.out;clear HA HM HZ H5;obtain⟨ws,rfl⟩:∃ws,ws=wr:=⟨_,rfl⟩;go_wp2_with fail
   go_loopw [11,61] (fun v x wy=>∃j:Nat,j≤nb∧x=iV (j:Int)∧wy.ownsRow ws.heap.size 67 2 v j (ivs (fun i=>cB (Qb i)) j)∧Below ws.heap.size ws wy) (fun _ x _=>nb-(intOf x).toNat)
   case atStart=>exact⟨0,Nat.zero_le _,rfl,World.ownsRow_nil _ _ _ _,Below.refl _ _⟩
   case round=>
    obtain⟨j,hj1,rfl,hown,hb2⟩:=hrel;have HO:=hid hown;have HB2:=hid hb2;clear hown hb2;by_cases hj:j<nb
    ·obtain⟨g,off,rfl,hg,hc⟩:=HB.out.resolve_left (by omega);have hbw:Below w.heap.size w wr:=HW2.out.trans (HB2.out.mono HW2.out.size);obtain⟨c1,c2⟩:=hc j hj;rw[←hbw.cell (by exact hg)] at c1 c2;have hgl:g<wr.heap.size:=Nat.lt_of_lt_of_le hg hbw.size;have HNj:Hid (∀W:World,Below wr.heap.size wr W→aw 40 #[.agg #[uV ((Qb j).1:Int),uV ((Qb j).2:Int)]] W (.agg #[fV (cB (Qb j)).1,fV (cB (Qb j)).2])):=fun W hW=>HN.out W j (hbw.trans (hW.mono hbw.size)) hj
     have HX:Hid (ivs (fun i=>cB (Qb i)) (j+1)=ivs (fun i=>cB (Qb i)) j++[fV (cB (Qb j)).1,fV (cB (Qb j)).2]):=qK _ j;generalize(Qb j).1=y1 at*;generalize(Qb j).2=y2 at*;generalize(cB (Qb j)).1=z1 at*;generalize(cB (Qb j)).2=z2 at*;clear hc hg HN HV HS HB hbw HRW HBW HW2;go_wp2_with fail;refine (HNj.out _ aJ).mono ?_;rintro e w1 ⟨rfl,hb1⟩;have ha:Below wr.heap.size wr (wr.alloc (.cells #[nV y1,nV y2] 33)):=aK.alloc ae _;have hw1:Below wr.heap.size wr w1:=ha.trans (hb1.mono ha.size);have HO:=hid (aH HO.out hw1 ae);have HB2:=hid (HB2.out.trans (hw1.mono HB2.out.size));have hsz:=HB2.out.size;clear hb1 ha hw1 c1 c2 HNj
     go_wp2_with (first
      |(at_builtin;refine wpList_append_own _ rfl _ _ 86 rfl ws.heap.size 67 i1 (gF 0 0) 2 16 Tryz.underlying86 hi1 hy0 hy1 hy2 rfl (by decide) _ _ _ rfl (HO.out.alloc _) ⟨w1.heap.size,0,none⟩ 1 1 [fV z1,fV z2] rfl rfl lZ ?c2 ?c3 ?c4 ?c5 ?_)
      |go_in)
     case c2=>intro u hu;simp at hu;rcases hu with rfl|rfl<;>rfl
     case c3=>unfold maxLen;omega
     case c4=>omega
     case c5=>first|omega|(simp;omega)
     ·intro v' w2 hown' hgrow _;have PB:=hid (eQ HO.out HB2.out ae hgrow);rw[←HX.out] at hown';have HO2:=hid hown';clear hown' hgrow HO HB2;go_wp2;go_roundw
      case rel=>exact⟨j+1,by omega,by go_num,HO2.out,PB.out⟩
      case measure=>simp[intOf];omega
    ·obtain rfl:j=nb:=by omega
     have hbw:Below w.heap.size w wr:=HW2.out.trans (HB2.out.mono HW2.out.size);have HSV:=hid (HV.out wr _ _ hbw (HRW.out.below HB2.out) (aH HO.out aK HW2.out.size));have HBB:=hid hbw;clear hbw HV HRW HBW HW2 HO HB2 HB HN;go_wp2_with fail;refine Calls.mono HSV.out ?_;rintro e w3 ⟨vl,ve,rfl,herr,hb3,hor⟩;have HB3:=hid (HBB.out.trans (hb3.mono HBB.out.size));have HCD:=hid (jK A ve k ⟨#[]⟩ w3 (HS.out.below HB3.out ae) herr);have HOR:=hid hor;have HBS:=hid HBB.out.size;clear herr hb3 hor HSV HS HBB;go_wp2_with fail;refine Calls.mono HCD.out ?_;rintro e w4 ⟨rfl,hb4⟩;have HB4:=hid (HB3.out.trans (hb4.mono HB3.out.size));have B34:=hid hb4;clear hb4 HCD HB3;rcases HOR.out with⟨rfl,rfl⟩|⟨hl0,hl4,gf,rfl,hgf,hrow⟩
     ·clear HOR;go_wp2_with fail
      go_loopw [18,84] (fun v x wy=>v= .slice none 0 0∧x=iV 0∧wy=w4) (fun _ _ _=>0)
      case atStart=>exact⟨rfl,rfl,rfl⟩
      case round=>
       obtain⟨rfl,rfl,rfl⟩:=hrel;go_wp2_with fail
       go_loopw [96] (fun x wy=>x=iV 0∧wy=wr) (fun _ _=>0)
       case atStart=>exact⟨rfl,rfl⟩
       case round=>
        obtain⟨rfl,rfl⟩:=hrel;go_wp2;refine bodyPost_ret (v:= .tuple #[.slice none 0 0,iV (k:Int)]) (by simp[results,Tryz.results24,go_sem]) rfl ?_
        first|exact⟨none,0,rfl,.inl rfl,Nat.le_refl _,fun _=>⟨rfl,rfl⟩,HB4.out⟩|exact⟨none,0,rfl,.inl rfl,⟨rfl,rfl⟩,HB4.out⟩
     ·have RW3:=hid (hrow.below B34.out);have HGF:Hid (w.heap.size≤gf):=Nat.le_trans HBS.out hgf;have LT:=hid hrow.lt;clear HOR hrow hgf HBS;have HW4:=hid HB4.out.size;go_wp2_with fail
      go_loopw [18,84] (fun v x wy=>∃j:Nat,j≤len∧x=iV (j:Int)∧wy.ownsRow w4.heap.size 33 2 v j (bxs xs j)∧Below w4.heap.size w4 wy) (fun _ x _=>len-(intOf x).toNat)
      case atStart=>exact⟨0,Nat.zero_le _,rfl,World.ownsRow_nil _ _ _ _,Below.refl _ _⟩
      case round=>
       obtain⟨j,hj1,rfl,hown,hb5⟩:=hrel;have HO:=hid hown;have HB5:=hid hb5;clear hown hb5;by_cases hj:j<len
       ·obtain⟨c1,c2,-,-⟩:=(RW3.out.below HB5.out).cell hj;have hgl:gf<wr.heap.size:=(RW3.out.below HB5.out).lt;have HX:Hid (bxs xs (j+1)=bxs xs j++[uV ((xs j).1:Int),uV ((xs j).2:Int)]):=lh xs j;generalize(xs j).1=y1 at*;generalize(xs j).2=y2 at*;clear RW3 HGF LT HB4 B34;go_wp2_with fail;refine (gR y1 y2 _).mono ?_;rintro e w5 ⟨rfl,hb6⟩;have ha:Below wr.heap.size wr (wr.alloc (.cells #[fV y1,fV y2] 67)):=aK.alloc ae _;have hw1:Below wr.heap.size wr w5:=ha.trans (hb6.mono ha.size);have HO:=hid (aH HO.out hw1 ae);have HB5:=hid (HB5.out.trans (hw1.mono HB5.out.size));have hsz:=HB5.out.size;clear hb6 ha hw1 c1 c2
        go_wp2_with (first
         |(at_builtin;refine wpList_append_own _ rfl _ _ 41 rfl w4.heap.size 33 i2 (.agg #[uV 0,uV 0]) 2 16 Tryz.underlying41 hi2 hx0 hx1 hx2 rfl (by decide) _ _ _ rfl (HO.out.alloc _) ⟨w5.heap.size,0,none⟩ 1 1 [nV y1,nV y2] rfl rfl lZ ?c2 ?c3 ?c4 ?c5 ?_)
         |go_in)
        case c2=>intro u hu;simp at hu;rcases hu with rfl|rfl<;>rfl
        case c3=>unfold maxLen;omega
        case c4=>omega
        case c5=>first|omega|(simp;omega)
        ·intro v' w6 hown' hgrow _;have PB:=hid (eQ HO.out HB5.out ae hgrow);rw[←HX.out] at hown';have HO2:=hid hown';clear hown' hgrow HO HB5;go_wp2;go_roundw
         case rel=>exact⟨j+1,by omega,by go_num,HO2.out,PB.out⟩
         case measure=>simp[intOf];omega
       ·obtain rfl:len=j:=by omega
        obtain⟨bo',bc',rfl,hc',-⟩:=BxV.of_bxs HO.out;have HC':=hid hc';clear hc';have RW6:=hid (RW3.out.below HB5.out);have HB6:=hid (HB4.out.trans (HB5.out.mono HB4.out.size));have hgne:Hid (gf<w4.heap.size):=Nat.lt_of_lt_of_le LT.out B34.out.size;obtain⟨w6,rfl⟩:∃w6,w6=wr:=⟨_,rfl⟩;clear RW3 HB4 B34 HB5 LT;go_wp2_with fail
        go_loopw [96] (fun x wy=>∃(j:Nat) (r:Nat→Nat×Nat),j≤len∧x=iV (j:Int)∧bI wy gf len r∧wy.ownsRow w4.heap.size 33 2 (.slice bo' len bc') len (bxs xs len)∧Below w.heap.size w wy) (fun x _=>len-(intOf x).toNat)
        case atStart=>exact⟨0,xs,Nat.zero_le _,rfl,RW6.out,HO.out,HB6.out⟩
        case round=>
         obtain⟨j,r,hj1,rfl,hrow,hown,hb7⟩:=hrel;have RW7:=hid hrow;have HO7:=hid hown;have HB7:=hid hb7;clear hrow hown hb7 HO HB6 RW6;by_cases hj:j<len
         ·obtain⟨c1,c2,f1,f2⟩:=RW7.out.cell hj;have hgl:=RW7.out.lt;have RW8:=hid (RW7.out.set hj 0 0);have HO8:Hid (((wr.setCell ⟨gf,j*2,none⟩ (fV 0)).setCell ⟨gf,j*2+1,none⟩ (fV 0)).ownsRow w4.heap.size 33 2 (.slice bo' len bc') len (bxs xs len)):=dS (dS HO7.out (db _ _ _ _) (fun k hk e=>by cases e;have:=(da HO7.out hk).1;have:=hgne.out;omega)) (db _ _ _ _) (fun k hk e=>by cases e;have:=(da HO7.out hk).1;have:=hgne.out;omega);have HB8:Hid (Below w.heap.size w ((wr.setCell ⟨gf,j*2,none⟩ (fV 0)).setCell ⟨gf,j*2+1,none⟩ (fV 0))):=(HB7.out.setCell (by exact HGF.out) _).setCell (by exact HGF.out) _;clear RW7 HO7 HB7;go_wp2;go_roundw
          case rel=>exact⟨j+1,_,by omega,by go_num,RW8.out,HO8.out,HB8.out⟩
          case measure=>simp[intOf];omega
         ·obtain⟨bo2,bc2,e2,-,hv'⟩:=BxV.of_bxs HO7.out
          cases e2
          have HV':=hid hv';clear hv' HO7 RW7;go_wp2;refine bodyPost_ret (v:= .tuple #[.slice bo' len bc',iV (k:Int)]) (by simp[results,Tryz.results24,go_sem]) rfl ?_;exact⟨bo',bc',rfl,HV'.out,HC'.out,fun h=>absurd h hl0,HB7.out⟩
end
end Go.Proofs.YtonhpkigoplmaaaGreatDoor
