import Derived.Test.YtonhpkigoplmaaaGreatDoorZ25
set_option maxRecDepth 100000
set_option maxHeartbeats 40000000
namespace Go.Proofs.YtonhpkigoplmaaaGreatDoor
section
open Go.RowKit Go.Extern Ieee
def nJ (args:Array Value) (n:Nat) (E:Nat→Nat→ap) (W:World):Prop:=ax 171 args W fun e w'=>∃(q:ap) (o:Option Addr) (l c:Nat),e= .returned (.agg #[.bool q.1,.slice o l c,iV q.2.2])∧l=(digits q.2.1).length∧aq w' (.slice o l c) q.2.1∧Al n E q∧Below W.heap.size W w'
theorem Cl (ao:Option Addr) (ac:Nat) (bo:Option Addr) (nb bc:Nat) (col:Int) (E:Nat→Nat→ap) (w:World):nJ #[.slice ao 0 ac,.slice bo nb bc,iV col] 0 E w:=by
 unfold nJ;have HO:Hid (∀W,ax 114 #[iV 1] W fun e w'=>∃o l c,e= .returned (.slice o l c)∧l=(digits 1).length∧aq w' (.slice o l c) 1∧Below W.heap.size W w'):=EK;have HD:Hid (Al 0 E (false,1,0)):=⟨by rw[y9,pN];rfl,⟨by simp only;omega,by simp only;omega,by simp only;decide⟩⟩;go_enter Tryz.func171,Tryz.ntmps171;go_wp2_with fail;have k6:=af w (.cells #[.bool false,.slice none 0 0,iV 0] 92);have hb0:Below w.heap.size w (w.alloc (.cells #[.bool false,.slice none 0 0,iV 0] 92)):=aK.alloc ae _;generalize(w.alloc (.cells #[.bool false,.slice none 0 0,iV 0] 92))=W1 at*;refine (HO.out _).mono ?_;rintro e w1 ⟨o,l,c,rfl,hl,hn,hb⟩;have K6:=hid (aa k6 hb);have HB:=hid (hb0.trans (hb.mono hb0.size));have HN:=hid hn;have HL:=hid hl;obtain⟨z0,z1,z2,f0,f1,f2⟩:=aB K6.out;clear hn hb hb0 k6 hl HO;go_wp2;obtain⟨r0,r1,r2,-,-,-⟩:=aB (aY (a:= .bool false) (b:= .slice o l c) (c:=iV 0) K6.out);refine bodyPost_ret (v:= .agg #[.bool false,.slice o l c,iV 0]) (by simp[results,Tryz.results171,go_sem,r0,r1,r2]) rfl ?_
 exact⟨(false,1,0),o,l,c,rfl,HL.out,HN.out.keeps (fun g cur hh=>by
  have:g≠w.heap.size:=fun h=>by
   subst h;rw[K6.out] at hh
   cases hh
  exact aD hh this),HD.out,((HB.out.setCell ae _).setCell ae _).setCell ae _⟩
structure DtS (w wr:World) (n:Nat) (E:Nat→Nat→ap) (j:Nat) (t:ap) (o:Option Addr) (l c:Nat):Prop where
 k6:wr.heap[w.heap.size]?=some (.cells #[.bool false,.slice none 0 0,iV 0] 92 (0,0))
 kt:NBk wr (w.heap.size+1) t o l c
 hb:Below w.heap.size w wr
 dt:nr n E j t
theorem DtS.below {w wr W:World} {n:Nat} {E:Nat→Nat→ap} {j:Nat} {t:ap} {o:Option Addr} {l c:Nat} (s:DtS w wr n E j t o l c) (hb:Below wr.heap.size wr W):DtS w W n E j t o l c:=⟨aa s.k6 hb,s.kt.below hb,s.hb.trans (hb.mono s.hb.size),s.dt⟩
def iR (j k:Nat):Nat:=if k≤j then k else k-1
theorem CW (n:Nat) (hn:n+1≤4) (IH:∀(W:World) (v:Value) (Q:Nat→Nat→ap),qv W v n Q→(∀i k,i<n→k<n→Bq 953 953 (Q i k))→nJ #[v,.slice none 0 0,iV (-1)] n Q W)
  (ao bo:Option Addr) (ac nb bc:Nat) (col:Int) (Q:Nat→Nat→ap) (B:Nat→ap) (w:World) (hm:qv w (.slice ao (n+1) ac) (n+1) Q) (hcol:col<0∨(nb=n+1∧et w (.slice bo nb bc) (n+1) B)) (hE:∀i k,i<n+1→k<n+1→Bq 953 953 (entQ Q B col i k)):
  nJ #[.slice ao (n+1) ac,.slice bo nb bc,iV col] (n+1) (entQ Q B col) w:=by
 unfold nJ;obtain⟨i0,hI0,hy0,hy1,hy2⟩:=info_parts zK;obtain⟨i1,hI1,hz0,hz1,hz2⟩:=info_parts xj;have HM:=hid hm;have HC:=hid hcol;have HE:=hid hE;have HI:=hid IH;have ENT:Hid (∀i k,entQ Q B col i k=if(k:Int)=col then B i else Q i k):=fun _ _=>rfl
 generalize entQ Q B col=E at*;clear hm hcol hE IH;have gz:((n:Int)+1==0)=false:=by rw[beq_eq_false_iff_ne];omega
 go_enter Tryz.func171,Tryz.ntmps171;go_wp2_with fail
 have ST:Hid (DtS w ((w.alloc (.cells #[.bool false,.slice none 0 0,iV 0] 92)).alloc (.cells #[.bool false,.slice none 0 0,iV 0] 92)) n E 0 (false,0,0) none 0 0):=by
  have B1:=af (w.alloc (.cells #[.bool false,.slice none 0 0,iV 0] 92)) (.cells #[.bool false,.slice none 0 0,iV 0] 92);simp only[World.size_alloc] at B1;exact⟨ai (af w _) _,⟨B1,by simp[cK],aq.zero _⟩,aJ.alloc (by simp) _,nr.zero _ _⟩
 generalize((w.alloc (.cells #[.bool false,.slice none 0 0,iV 0] 92)).alloc (.cells #[.bool false,.slice none 0 0,iV 0] 92))=W1 at*
 go_loopw [9] (fun x wr=>∃(j:Nat) (t:ap) (o:Option Addr) (l c:Nat),j≤n+1∧x=iV (j:Int)∧DtS w wr n E j t o l c) (fun x _=>n+1-(intOf x).toNat)
 case atStart=>exact⟨0,_,_,_,_,Nat.zero_le _,rfl,ST.out⟩
 case round=>
  obtain⟨j,t,to_,tl,tc,hj1,rfl,hst⟩:=hrel;have ST:=hid hst;clear hst;by_cases hj:j<n+1
  ·have gj:decide ((j:Int)<(n:Int)+1)=true:=decide_eq_true (by omega);have MW:=hid (HM.out.below ST.out.hb);obtain⟨ao',ac',e1,hor⟩:=id MW.out
   cases e1
   obtain⟨gm,rfl,hgm,hrow⟩:=hor.resolve_left (by omega);obtain⟨ro,rc,r1,r2⟩:=hrow 0 (by omega);obtain⟨g0,xo,xl,xc,rfl,hg0,a1,a2,a3,a4,a5⟩:=r2.at hj;have LX:=hid a4;have NX:=hid a5;clear hor hrow r2 a4 a5
   go_upto_if 38 with fail
   have hsz:=ST.out.hb.size;have ENX:=hid (ENT.out 0 j)
   go_cut [] (fun wc=>∃(o:Option Addr) (l c:Nat),NBk wc wr.heap.size (E 0 j) o l c∧Below wr.heap.size wr wc)
   case first=>
    by_cases hc:(j:Int)=col
    ·have g1:((j:Int)==col)=true:=by rw[beq_iff_eq];exact hc
     obtain⟨hnb,hrb⟩:=HC.out.resolve_left (by omega);subst hnb;obtain⟨gb,yo,yl,yc,rfl,hgb,b1,b2,b3,b4,b5⟩:=(hrb.below ST.out.hb).at (j:=0) (by omega);simp only[Nat.zero_mul,Nat.zero_add] at b1 b2 b3;have EE:Hid (E 0 j=B 0):=by show _=_;rw[ENX.out,if_pos hc]
     have LY:=hid b4;have NY:=hid b5;clear hrb b4 b5 HC ENT HE HI HM MW ENX;go_wp2_with fail;go_meet;rw[EE.out];exact⟨yo,yl,yc,⟨af _ _,LY.out,NY.out.below aJ ae⟩,aK.alloc ae _⟩
    ·have g1:((j:Int)==col)=false:=by rw[beq_eq_false_iff_ne];exact hc
     have EE:Hid (E 0 j=Q 0 j):=by show _=_;rw[ENX.out,if_neg hc]
     clear HC ENT HE HI HM MW ENX;go_wp2_with fail;go_meet;rw[EE.out];exact⟨xo,xl,xc,⟨af _ _,LX.out,NX.out.below aJ ae⟩,aK.alloc ae _⟩
   case rest=>
    obtain⟨o1,l1,c1,hx,hbc⟩:=hcut;have KX:=hid hx;have ST2:=hid (ST.out.below hbc);have MW2:=hid (MW.out.below hbc);have LTX:Hid (wr.heap.size<wc.heap.size):=ag hx.blk;clear hx hbc ST MW LX NX a1 a2 a3 r1 ENX hsz hg0 hgm;generalize wr.heap.size=gx at*;obtain⟨w2,rfl⟩:∃w2,w2=wc:=⟨_,rfl⟩;go_wp2_with fail
    go_loopw [11,12] (fun v x w3=>∃(i:Nat) (hv:Nat→Value),1≤i∧i≤n+1∧x=iV (i:Int)∧NMb w2.heap.size w3 v (i-1) n hv (sR E j)∧Below w2.heap.size w2 w3) (fun _ x _=>n+1-(intOf x).toNat)
    case atStart=>exact⟨1,fun _=>.slice none 0 0,Nat.le_refl _,by omega,rfl,NMb.nil _ _ _ _ _,Below.refl _ _⟩
    case round=>
     obtain⟨i,hv,hi0,hi1,rfl,hmb,hb3⟩:=hrel;obtain⟨w3,rfl⟩:∃w3,w3=wr:=⟨_,rfl⟩;have MB:=hid hmb;have B3:=hid hb3;clear hmb hb3;by_cases hi:i<n+1
     ·have gi:decide ((i:Int)<(n:Int)+1)=true:=decide_eq_true (by omega);have MW3:=hid (MW2.out.below B3.out);obtain⟨ao',ac',e1,hor⟩:=id MW3.out
      cases e1
      obtain⟨gm',e2,hgm,hrow⟩:=hor.resolve_left (by omega)
      cases e2
      obtain⟨ro,rc,r1,r2⟩:=hrow i hi;have RI:=hid r2;have RC:=hid r1;have GM:=hid hgm;clear hor hrow r1 r2 hgm;go_wp2_with fail
      go_loopw [13,14] (fun v x w4=>∃(k:Nat) (u:Nat→Value),k≤n+1∧x=iV (k:Int)∧NBl w3.heap.size w4 v (iR j k) (sR E j (i-1)) u∧Below w3.heap.size w3 w4) (fun _ x _=>n+1-(intOf x).toNat)
      case atStart=>exact⟨0,fun _=>.slice none 0 0,Nat.zero_le _,rfl,by
       have:iR j 0=0:=by unfold iR;simp
       rw[this];exact NBl.nil _ _ _ _,Below.refl _ _⟩
      case round=>
       obtain⟨k,u,hk1,rfl,hnb,hb4⟩:=hrel;obtain⟨w4,rfl⟩:∃w4,w4=wr:=⟨_,rfl⟩;have NL:=hid hnb;have B4:=hid hb4;clear hnb hb4;by_cases hk:k<n+1
       ·obtain⟨g0,xo,xl,xc,rfl,hg0,a1,a2,a3,a4,a5⟩:=(RI.out.below B4.out).at hk;have r1:w4.cell? ⟨gm,i,none⟩=some (.slice (some ⟨g0,0,none⟩) (n+1) rc):=by rw[B4.out.cell (by exact GM.out)];exact RC.out
        have LX:=hid a4;have NX:=hid a5;have ENX:=hid (ENT.out i k);have hgm:gm<w4.heap.size:=Nat.lt_of_lt_of_le GM.out B4.out.size;clear a4 a5
        go_upto_if 61 with fail
        go_cut [] (fun wc=>∃(o:Option Addr) (l c:Nat),NBk wc w4.heap.size (E i k) o l c∧Below w4.heap.size w4 wc)
        case first=>
         by_cases hc:(k:Int)=col
         ·have g1:((k:Int)==col)=true:=by rw[beq_iff_eq];exact hc
          obtain⟨hnb,hrb⟩:=HC.out.resolve_left (by omega);subst hnb;have hw4:Below w.heap.size w w4:=(ST2.out.hb.trans (B3.out.mono ST2.out.hb.size)).trans (B4.out.mono (ST2.out.hb.trans (B3.out.mono ST2.out.hb.size)).size);obtain⟨gb,yo,yl,yc,rfl,hgb,b1,b2,b3,b4,b5⟩:=(hrb.below hw4).at (j:=i) hi;have EE:Hid (E i k=B i):=by show _=_;rw[ENX.out,if_pos hc]
          have LY:=hid b4;have NY:=hid b5;clear hrb b4 b5 HC ENT HE HI HM ENX hw4;go_wp2_with fail;go_meet;rw[EE.out];exact⟨yo,yl,yc,⟨af _ _,LY.out,NY.out.below aJ ae⟩,aK.alloc ae _⟩
         ·have g1:((k:Int)==col)=false:=by rw[beq_eq_false_iff_ne];exact hc
          have EE:Hid (E i k=Q i k):=by show _=_;rw[ENX.out,if_neg hc]
          clear HC ENT HE HI HM ENX;go_wp2_with fail;go_meet;rw[EE.out];exact⟨xo,xl,xc,⟨af _ _,LX.out,NX.out.below aJ ae⟩,aK.alloc ae _⟩
        case rest=>
         obtain⟨o1',l1',c1',hy,hbc⟩:=hcut;have KY:=hid hy;have NL2:=hid (NL.out.below hbc);have B5:=hid (B4.out.trans (hbc.mono B4.out.size));clear hy hbc NL B4 LX NX a1 a2 a3 r1 ENX hg0 hgm;obtain⟨x0,x1,x2,-,-,-⟩:=aB KY.out.blk;by_cases hkj:k=j
         ·subst hkj;have e:iR k (k+1)=iR k k:=by unfold iR;simp
          have NL3:=NL2.out;rw[←e] at NL3;have NL3:=hid NL3;clear NL2 KY x0 x1 x2 e;go_wp2;go_roundw
          case rel=>exact⟨k+1,u,by omega,by go_num,NL3.out,B5.out⟩
          case measure=>simp[intOf];omega
         ·have g1:((k:Int) !=(j:Int))=true:=by rw[bne_iff_ne];omega
          have e:iR j (k+1)=iR j k+1:=by unfold iR;split<;>split<;>omega
          have eq:Hid (sR E j (i-1) (iR j k)=E i k):=by
           show _=_
           unfold sR iR;rw[show i-1+1=i by omega]
           congr 1
           split<;>split<;>omega
          have hcl:iR j k≤4:=by unfold iR;split<;>omega
          have hb5:=B5.out.size;have LY:=hid KY.out.len;have NY:=hid KY.out.nat
          have eq':=eq.out;generalize hE0:E i k=ek at*;clear KY HC ENT HE HI HM hE0
          go_wp2_with (first
           |(at_builtin;refine wpList_append_own _ rfl _ _ 103 rfl w3.heap.size 92 i0 (.agg #[.bool false,.slice none 0 0,iV 0]) 3 40 Tryz.underlying103 hI0 hy0 hy1 hy2 rfl (by decide) _ _ _ rfl (NL2.out.own.alloc _) ⟨wc.heap.size,0,none⟩ 1 1 [.bool ek.1,.slice o1' l1' c1',iV ek.2.2] rfl rfl md ?c2 ?c3 ?c4 ?c5 ?_)
           |go_in)
          case c2=>intro u hu;simp at hu;rcases hu with rfl|rfl|rfl<;>rfl
          case c3=>unfold maxLen;omega
          case c4=>omega
          case c5=>simp;omega
          ·intro v' w5 hown' hgrow _;have PB:=hid (eQ NL2.out.own B5.out ae hgrow);have PN:=NL2.out.push (u:=u) (o:=o1') (l:=l1') (c:=c1') (by rw[eq'];exact LY.out) (by rw[eq'];exact NY.out) (by rw[eq'];exact hown') hgrow aJ;rw[←e] at PN;have PN:=hid PN;clear hown' hgrow NL2 B5 eq' LY NY x0 x1 x2 e;go_wp2;go_roundw
           case rel=>first|exact⟨k+1,_,by omega,by go_num,PN.out,PB.out⟩|((repeat apply Exists.intro);exact⟨⟨k+1,_,by omega,by go_num,PN.out,PB.out⟩,rfl⟩)
           case measure=>simp[intOf];omega
       ·have e:iR j k=n:=by unfold iR;split<;>omega
        have NR:=NL.out.row;rw[e] at NR;obtain⟨po,pc,rfl,-⟩:=id NR;have NR:=hid NR;have MB2:=hid (MB.out.below B4.out);have B5:=hid (B3.out.trans (B4.out.mono B3.out.size));clear NL MB B3 e RI RC GM MW3;have hb5:=B5.out.size
        go_wp2_with (first
         |(at_builtin;refine wpList_append_own _ rfl _ _ 210 rfl w2.heap.size 103 i1 (.slice none 0 0) 1 24 Tryz.underlying210 hI1 hz0 hz1 hz2 rfl (by decide) _ _ _ rfl (MB2.out.own.alloc _) ⟨w4.heap.size,0,none⟩ 1 1 [.slice po n pc] rfl rfl qM ?c2 ?c3 ?c4 ?c5 ?_)
         |go_in)
        case c2=>intro u hu;simp at hu;rcases hu with rfl;rfl
        case c3=>unfold maxLen;omega
        case c4=>omega
        case c5=>simp;omega
        ·intro v' w5 hown' hgrow _;have PB:=hid (eQ MB2.out.own B5.out ae hgrow);have ha:Below w4.heap.size w4 (w4.alloc (.cells #[.slice po n pc] 103)):=aK.alloc ae _;have PN:=(MB2.out.below ha).push (NR.out.below ha) (by rw[show i-1+1=i by omega];exact hown') hgrow;rw[show i-1+1=i+1-1 by omega] at PN;have PN:=hid PN;clear hown' hgrow MB2 B5 NR ha B4;go_wp2;go_roundw
         case rel=>first|exact⟨i+1,_,by omega,by omega,by go_num,PN.out,PB.out⟩|((repeat apply Exists.intro);exact⟨⟨i+1,_,by omega,by omega,by go_num,PN.out,PB.out⟩,rfl⟩)
         case measure=>simp[intOf];omega
     ·obtain rfl:i=n+1:=by omega
      have MT:=hid MB.out.mat
      have IHC:=hid (HI.out w3 _ (sR E j) MT.out (fun a k ha hk=>HE.out (a+1) _ (by omega) (by split<;>omega)));have KX3:=hid (KX.out.below B3.out);have ST3:=hid (ST2.out.below B3.out);have BX:=hid (HE.out 0 j (by omega) hj);clear MB MT HI HE HM HC ENT KX ST2 B3 MW2 LTX;unfold nJ at IHC;go_wp2_with fail;refine Calls.mono IHC.out ?_;rintro e w4 ⟨d,do_,dl,dc,rfl,hdl,hdn,hdp,hb4⟩;have KX4:=hid (KX3.out.below hb4);have ST4:=hid (ST3.out.below hb4);have ND:=hid hdn;have LD:=hid hdl;have DP:=hid hdp;clear hb4 hdn hdl hdp KX3 ST3 IHC;obtain⟨x0,x1,x2,-,-,-⟩:=aB KX4.out.blk;have hlx:=ag KX4.out.blk;have hmm:=Fa (n:=n) (by omega);have SX:=hid (BX.out.sm (by omega) (by omega));have SD:=hid (DP.out.bq.sm (by omega) (by omega));go_wp2_with fail;have ha:Below w4.heap.size w4 (w4.alloc (.cells #[.bool d.1,.slice do_ dl dc,iV d.2.2] 92)):=aK.alloc ae _;have HP:=hid (kU SX.out SD.out (w4.alloc (.cells #[.bool d.1,.slice do_ dl dc,iV d.2.2] 92)) o1 do_ l1 c1 dl dc KX4.out.len (KX4.out.nat.below ha ae) LD.out (ND.out.below ha ae));refine Calls.mono HP.out ?_;rintro e w5 ⟨po,pl,pc,rfl,hpl,hpn,hb5⟩;have ST5:=hid ((ST4.out.below ha).below hb5);have NP:=hid hpn;have LP:=hid hpl;have BP:=hid (BX.out.prod DP.out.bq);clear hb5 hpn hpl HP ha KX4 ST4 ND LD x0 x1 x2 hlx SX SD;generalize hpr:aT (E 0 j) d=pr at*
      have gt:((j:Int).tmod 2==1)=decide (j % 2=1):=by
       rw[Int.tmod_eq_emod_of_nonneg (by omega)];rw[Bool.eq_iff_iff,beq_iff_eq,decide_eq_true_eq];omega
      have hs5:=ST5.out.hb.size
      go_upto_if 84 with fail
      go_cut [] (fun wc=>∃(o:Option Addr) (l c:Nat),NBk wc w5.heap.size (if j % 2=1 then bC pr else pr) o l c∧Below w5.heap.size w5 wc)
      case first=>
       by_cases hc:j % 2=1
       ·rw[decide_eq_true hc] at gt;have K0:=af w5 (.cells #[.bool pr.1,.slice po pl pc,iV pr.2.2] 92);have ha:Below w5.heap.size w5 (w5.alloc (.cells #[.bool pr.1,.slice po pl pc,iV pr.2.2] 92)):=aK.alloc ae _;have NP2:=hid (NP.out.below ha ae);go_wp2_with fail;generalize(w5.alloc (.cells #[.bool pr.1,.slice po pl pc,iV pr.2.2] 92))=W6 at*;refine (eM pr W6 po pl pc LP.out NP2.out).mono ?_;rintro e w6 ⟨no,nl,nc,rfl,hnl,hnn,hb6⟩;have K1:=hid (aa K0 hb6);have B6:=hid (ha.trans (hb6.mono ha.size));have NN:=hid hnn;have LN:=hid hnl;clear hb6 hnn hnl K0 ha NP2;obtain⟨x0,x1,x2,f0,f1,f2⟩:=aB K1.out;have hlx:=ag K1.out;go_wp2_with fail;go_meet;rw[if_pos hc];exact⟨no,nl,nc,⟨aY K1.out,LN.out,bM NN.out K1.out⟩,((B6.out.setCell ae _).setCell ae _).setCell ae _⟩
       ·rw[decide_eq_false hc] at gt;go_wp2_with fail;go_meet;rw[if_neg hc];exact⟨po,pl,pc,⟨af _ _,LP.out,NP.out.below aJ ae⟩,aK.alloc ae _⟩
      case rest=>
       obtain⟨qo,ql,qc,hq,hbc⟩:=hcut;have KQ:=hid hq;have ST6:=hid (ST5.out.below hbc);have DS:=hid (ST6.out.dt.step DP.out BX.out (p:=if j % 2=1 then bC pr else pr) (by rw[hpr]))
       have SP:Hid (Sm (if j % 2=1 then bC pr else pr)):=by
        show Sm _
        have:=BP.out.sm (by omega) (by omega);split
        ·exact⟨this.b,this.l,this.u⟩
        ·exact this
       have STt:=hid (ST6.out.dt.bq.sm (by omega) (by omega));clear hq hbc ST5 NP LP BP DP hpr gt;generalize(if j % 2=1 then bC pr else pr)=pp at*;have HSM:=hid (kH STt.out SP.out wc to_ qo tl tc ql qc ST6.out.kt.len ST6.out.kt.nat KQ.out.len KQ.out.nat);obtain⟨x0,x1,x2,-,-,-⟩:=aB KQ.out.blk;obtain⟨t0,t1,t2,-,-,-⟩:=aB ST6.out.kt.blk;have hlx:=ag KQ.out.blk;have hlt:=ag ST6.out.kt.blk;clear STt SP;go_wp2_with fail;refine Calls.mono HSM.out ?_;rintro e w7 ⟨so,sl,sc,rfl,hsl,hsn,hb7⟩;have ST7:=hid (ST6.out.below hb7);have NS:=hid hsn;have LS:=hid hsl;clear hb7 hsn hsl HSM KQ ST6 x0 x1 x2 t0 t1 t2 hlx hlt;obtain⟨t0,t1,t2,f0,f1,f2⟩:=aB ST7.out.kt.blk;have hlt:=ag ST7.out.kt.blk;generalize sumT t pp=s2 at*
       have STN:Hid (DtS w (((w7.setCell ⟨w.heap.size+1,0,none⟩ (.bool s2.1)).setCell ⟨w.heap.size+1,1,none⟩ (.slice so sl sc)).setCell ⟨w.heap.size+1,2,none⟩ (iV s2.2.2)) n E (j+1) s2 so sl sc):=
        ⟨aD ST7.out.k6 (by omega),⟨aY ST7.out.kt.blk,LS.out,bM NS.out ST7.out.kt.blk⟩,((ST7.out.hb.setCell (Nat.le_succ _) _).setCell (Nat.le_succ _) _).setCell (Nat.le_succ _) _,DS.out⟩
       clear ST7 NS LS DS;go_wp2;go_roundw
       case rel=>first|exact⟨j+1,_,_,_,_,by omega,by go_num,STN.out⟩|((repeat apply Exists.intro);exact⟨⟨j+1,_,_,_,_,by omega,by go_num,STN.out⟩,rfl⟩)
       case measure=>simp[intOf];omega
  ·obtain rfl:j=n+1:=by omega
   have DP:=hid ST.out.dt.done;obtain⟨t0,t1,t2,-,-,-⟩:=aB ST.out.kt.blk;obtain⟨z0,z1,z2,f0,f1,f2⟩:=aB ST.out.k6;have hlt:=ag ST.out.kt.blk;clear HM HC HE HI ENT;go_wp2;obtain⟨r0,r1,r2,-,-,-⟩:=aB (aY (a:= .bool t.1) (b:= .slice to_ tl tc) (c:=iV t.2.2) ST.out.k6);refine bodyPost_ret (v:= .agg #[.bool t.1,.slice to_ tl tc,iV t.2.2]) (by simp[results,Tryz.results171,go_sem,r0,r1,r2]) rfl ?_;exact⟨t,to_,tl,tc,rfl,ST.out.kt.len,bM ST.out.kt.nat ST.out.k6,DP.out,((ST.out.hb.setCell ae _).setCell ae _).setCell ae _⟩
theorem qw (Q:Nat→Nat→ap) (B:Nat→ap) {col:Int} (h:col<0):entQ Q B col=Q:=by
 funext i k
 unfold entQ;rw[if_neg (by omega)]
theorem qs:∀(n:Nat),n≤4→∀(v:Value) (bo:Option Addr) (nb bc:Nat) (col:Int) (Q:Nat→Nat→ap) (B:Nat→ap) (w:World),qv w v n Q→(col<0∨(nb=n∧et w (.slice bo nb bc) n B))→(∀i k,i<n→k<n→Bq 953 953 (entQ Q B col i k))→nJ #[v,.slice bo nb bc,iV col] n (entQ Q B col) w
 |0,_,v,bo,nb,bc,col,Q,B,w,hm,_,_=>by
  obtain⟨ao,ac,rfl,-⟩:=hm;exact Cl ao ac bo nb bc col _ w
 |n+1,hn,v,bo,nb,bc,col,Q,B,w,hm,hc,hE=>by
  obtain⟨ao,ac,rfl,-⟩:=id hm;refine CW n hn (fun W v Q' hm' hq=>?_) ao bo ac nb bc col Q B w hm hc hE;have h:=qs n (by omega) v none 0 0 (-1) Q' (fun _=>(false,0,0)) W hm' (.inl (by omega)) (by rw[qw _ _ (by omega)];exact hq);rw[qw _ _ (by omega)] at h;exact h
theorem kA (ao bo:Option Addr) (na ac d nb bc:Nat) (w:World) (hnb:nb<4611686018427387904) (hd:d≤5):
  ax 135 #[.slice ao na ac,iV (d:Int),.slice bo nb bc] w fun e w'=>∃r,e= .returned (.bool r)∧(r=true↔Shp na d nb)∧w'=w:=by
 have HS:Hid (Shp na d nb↔(nb≠0∧nb≤4∧d≠0∧(nb=1∧na=1∨nb≠1∧d=nb∧na=nb*nb))):=Iff.rfl;generalize Shp na d nb=X at*;have HD:=hid hd;clear hd;by_cases h1:nb=0
 ·have g1:decide ((nb:Int)<1)=true:=decide_eq_true (by omega);have hr:Hid (false=true↔X):=by show _↔_;rw[HS.out];simp[h1]
  clear h1 HS;go_enter Tryz.func135,Tryz.ntmps135;go_wp2
  go_ret
  exact⟨_,rfl,hr.out,rfl⟩
 ·have g1:decide ((nb:Int)<1)=false:=decide_eq_false (by omega);by_cases h2:4<nb
  ·have g2:decide ((nb:Int)>4)=true:=decide_eq_true (by omega);have hr:Hid (false=true↔X):=by show _↔_;rw[HS.out];simp;omega
   clear h1 h2 HS;go_enter Tryz.func135,Tryz.ntmps135;go_wp2
   go_ret
   exact⟨_,rfl,hr.out,rfl⟩
  ·have g2:decide ((nb:Int)>4)=false:=decide_eq_false (by omega);by_cases h3:d=0
   ·have g3:decide ((d:Int)<1)=true:=decide_eq_true (by omega);have hr:Hid (false=true↔X):=by show _↔_;rw[HS.out];simp;omega
    clear h1 h2 h3 HS;go_enter Tryz.func135,Tryz.ntmps135;go_wp2
    go_ret
    exact⟨_,rfl,hr.out,rfl⟩
   ·have g3:decide ((d:Int)<1)=false:=decide_eq_false (by omega);by_cases h4:nb=1
    ·have hr:Hid (((na:Int)==1)=true↔X):=by
      show _↔_
      rw[HS.out,beq_iff_eq];omega
     subst h4;clear h1 h2 h3 HS g1 g2;generalize hb:((na:Int)==1)=r at*;go_enter Tryz.func135,Tryz.ntmps135;go_wp2
     go_ret
     exact⟨_,rfl,hr.out,rfl⟩
    ·have g4:((nb:Int)==1)=false:=by rw[beq_eq_false_iff_ne];omega
     by_cases h5:d=nb
     ·subst h5;have e1:((d:Int)==(d:Int))=true:=by simp
      have hr:Hid (((na:Int)==(d:Int)*(d:Int))=true↔X):=by
       show _↔_
       rw[HS.out,beq_iff_eq,←Int.natCast_mul,Int.natCast_inj];constructor
       ·intro h;exact⟨h1,by omega,h3,.inr ⟨h4,rfl,h⟩⟩
       ·intro h;rcases h.2.2.2 with h|h
        ·exact absurd h.1 h4
        ·exact h.2.2
      have m1:(d:Int)*(d:Int)≤25:=by
       have:=HD.out;have:d*d≤5*5:=Nat.mul_le_mul this this;omega
      have m2:0≤(d:Int)*(d:Int):=by rw[←Int.natCast_mul];omega
      clear HS;generalize hm:(d:Int)*(d:Int)=dd at*;generalize hb:((na:Int)==dd)=r at*;clear h1 h2 h3 h4;go_enter Tryz.func135,Tryz.ntmps135;go_wp2
      go_ret
      exact⟨_,rfl,hr.out,rfl⟩
     ·have g5:((d:Int)==(nb:Int))=false:=by rw[beq_eq_false_iff_ne];omega
      have hr:Hid (false=true↔X):=by
       show _↔_
       rw[HS.out];constructor
       ·intro h;cases h
       ·intro h;rcases h.2.2.2 with h|h
        ·exact absurd h.1 h4
        ·exact absurd h.2.1 h5
      clear h1 h2 h3 h4 h5 HS;go_enter Tryz.func135,Tryz.ntmps135;go_wp2
      go_ret
      exact⟨_,rfl,hr.out,rfl⟩
theorem r8 (s:Bool) (o:Option Addr) (l c:Nat) (e:Int) (w:World):aw 169 #[.agg #[.bool s,.slice o l c,iV e]] w (.agg #[.bool false,.slice o l c,iV e]):=by
 go_enter Tryz.func169,Tryz.ntmps169;go_wp2;refine bodyPost_ret (v:= .agg #[.bool false,.slice o l c,iV e]) (by simp[results,Tryz.results169,go_sem]) rfl ?_;exact⟨rfl,aJ.alloc (by simp) _⟩
structure tu (n:Nat) (xs ys:Nat→Nat×Nat) (i:Nat):Prop where
 b:(ys i).1=(ys i).2
 a:∀j,j<n→(xs (n*i+j)).1=(xs (n*i+j)).2
 dom:4*sumR n (fun j=>if j=i then 0 else ab (aF (xs (n*i+j)).1))≤ab (aF (xs (n*i+i)).1)
 nz:aF (xs (n*i+i)).1≠0
structure jP (n:Nat) (xs:Nat→Nat×Nat) (i j:Nat) (s d:ap):Prop where
 a:∀k,k<j→(xs (n*i+k)).1=(xs (n*i+k)).2
 vs:aI s=sumR j (fun k=>if k=i then 0 else ab (aF (xs (n*i+k)).1))
 bs:Bq 952 (952+j) s
 vd:i<j→aI d=ab (aF (xs (n*i+i)).1)
 bd:Bq 952 952 d
theorem jP.start (n:Nat) (xs:Nat→Nat×Nat) (i:Nat):jP n xs i 0 (false,0,0) (false,0,0):=⟨fun k hk=>by omega,dH rfl,Bq.zero _ _,fun h=>by omega,Bq.zero _ _⟩
theorem jP.other {n:Nat} {xs:Nat→Nat×Nat} {i j:Nat} {s d:ap} (h:jP n xs i j s d) (hp:(xs (n*i+j)).1=(xs (n*i+j)).2) (hq:Pl (plT (xs (n*i+j)).1)) (hij:i≠j):jP n xs i (j+1) (sumT s (iS (plT (xs (n*i+j)).1))) d:=by
 refine⟨fun k hk=>?_,?_,(h.bs.sum (hq.bq.amt.mono ae (by omega))).mono ae (by omega),fun hl=>h.vd (by omega),h.bd⟩
 ·by_cases hkj:k=j
  ·rw[hkj];exact hp
  ·exact h.a k (by omega)
 ·rw[mL,h.vs,pM]
  show _=sumR j _+(if j=i then 0 else _)
  rw[if_neg (by omega)]
  rfl
theorem jP.same {n:Nat} {xs:Nat→Nat×Nat} {i:Nat} {s d:ap} (h:jP n xs i i s d) (hp:(xs (n*i+i)).1=(xs (n*i+i)).2) (hq:Pl (plT (xs (n*i+i)).1)):jP n xs i (i+1) s (iS (plT (xs (n*i+i)).1)):=by
 refine⟨fun k hk=>?_,?_,h.bs.mono ae (by omega),fun _=>pM _,hq.bq.amt⟩
 ·by_cases hkj:k=i
  ·rw[hkj];exact hp
  ·exact h.a k (by omega)
 ·rw[h.vs]
  show _=sumR i _+(if i=i then 0 else _)
  rw[if_pos rfl];grind
def fourT (x:ap):ap:=(x.1,x.2.1,x.2.2+2)
theorem DL (x:ap):aI (fourT x)=4*aI x:=by
 unfold fourT aI;simp only;have h:=bT x.2.2 2;have h2:=bT 1 1;rw[show(1:Int)+1=2 by rfl,oF] at h2;rw[h,h2];grind
theorem jP.done {n:Nat} {xs ys:Nat→Nat×Nat} {i:Nat} {s d:ap} (h:jP n xs i n s d) (hi:i<n) (hb:(ys i).1=(ys i).2) (hl:lessT d (fourT s)=false) (hz:sgnI d.1 d.2.1≠0):tu n xs ys i:=by
 have hd:=h.vd hi;refine⟨hb,h.a,?_,fun hc=>?_⟩
 ·have h1:=jM d (fourT s);rw[hl,DL,h.vs,hd] at h1;apply Decidable.byContradiction;intro hc;exact absurd (h1.2 (by grind)) (by simp)
 ·rw[hc,fO] at hd;have a:=(dY d).1.2 (by grind);have b:=(dY d).2.2 (by grind);omega
structure SuM (w wr:World) (gs gd:Nat) (s d:ap) (so:Option Addr) (sl sc:Nat) (do_:Option Addr) (dl dc:Nat):Prop where
 ks:NBk wr gs s so sl sc
 kd:NBk wr gd d do_ dl dc
 ne:gs≠gd
 hs:w.heap.size≤gs
 hd:w.heap.size≤gd
 hb:Below w.heap.size w wr
theorem SuM.below {w wr W:World} {gs gd:Nat} {s d:ap} {so:Option Addr} {sl sc:Nat} {do_:Option Addr} {dl dc:Nat} (m:SuM w wr gs gd s d so sl sc do_ dl dc) (hb:Below wr.heap.size wr W):SuM w W gs gd s d so sl sc do_ dl dc:=⟨m.ks.below hb,m.kd.below hb,m.ne,m.hs,m.hd,m.hb.trans (hb.mono m.hb.size)⟩
theorem SuM.setS {w wr:World} {gs gd:Nat} {s d x:ap} {so xo:Option Addr} {sl sc xl xc:Nat} {do_:Option Addr} {dl dc:Nat} (m:SuM w wr gs gd s d so sl sc do_ dl dc) (hl:xl=(digits x.2.1).length) (hn:aq wr (.slice xo xl xc) x.2.1):SuM w (((wr.setCell ⟨gs,0,none⟩ (.bool x.1)).setCell ⟨gs,1,none⟩ (.slice xo xl xc)).setCell ⟨gs,2,none⟩ (iV x.2.2)) gs gd x d xo xl xc do_ dl dc:=
 ⟨⟨aY m.ks.blk,hl,bM hn m.ks.blk⟩,⟨aD m.kd.blk (fun e=>m.ne e.symm),m.kd.len,bM m.kd.nat m.ks.blk⟩,m.ne,m.hs,m.hd,((m.hb.setCell (by exact m.hs) _).setCell (by exact m.hs) _).setCell (by exact m.hs) _⟩
theorem SuM.setD {w wr:World} {gs gd:Nat} {s d x:ap} {so xo:Option Addr} {sl sc xl xc:Nat} {do_:Option Addr} {dl dc:Nat} (m:SuM w wr gs gd s d so sl sc do_ dl dc) (hl:xl=(digits x.2.1).length) (hn:aq wr (.slice xo xl xc) x.2.1):SuM w (((wr.setCell ⟨gd,0,none⟩ (.bool x.1)).setCell ⟨gd,1,none⟩ (.slice xo xl xc)).setCell ⟨gd,2,none⟩ (iV x.2.2)) gs gd s x so sl sc xo xl xc:=
 ⟨⟨aD m.ks.blk m.ne,m.ks.len,bM m.ks.nat m.kd.blk⟩,⟨aY m.kd.blk,hl,bM hn m.kd.blk⟩,m.ne,m.hs,m.hd,((m.hb.setCell (by exact m.hd) _).setCell (by exact m.hd) _).setCell (by exact m.hd) _⟩
theorem xH {W:World} {g:Nat} {a b c c':Value} {t:TypeId} (h:W.heap[g]?=some (.cells #[a,b,c] t (0,0))):(W.setCell ⟨g,2,none⟩ c').heap[g]?=some (.cells #[a,b,c'] t (0,0)):=by
 obtain⟨hlt,hk⟩:=Array.getElem?_eq_some_iff.1 h
 show(W.heap.modify g _)[g]?=_
 rw[Array.getElem?_eq_getElem (by rw[Array.size_modify];exact hlt),Array.getElem_modify_self,hk]
 rfl
theorem oB {W:World} {g:Nat} {c':Value} {cur:Array Value} {v:Value} {n:Nat} (h:aq W v n) (hg:W.heap[g]?=some (.cells cur 92 (0,0))):aq (W.setCell ⟨g,2,none⟩ c') v n:=
 h.keeps fun g' cur' hh=>by
  have:g'≠g:=fun e=>by
   subst e;rw[hg] at hh
   cases hh
  rw[Below.heap_setCell _ _ _ g' (fun e=>this e)];exact hh
theorem SuM.setE {w wr:World} {gs gd:Nat} {s d:ap} {so:Option Addr} {sl sc:Nat} {do_:Option Addr} {dl dc:Nat} (m:SuM w wr gs gd s d so sl sc do_ dl dc):SuM w (wr.setCell ⟨gs,2,none⟩ (iV (s.2.2+2))) gs gd (fourT s) d so sl sc do_ dl dc:=
 ⟨⟨xH m.ks.blk,m.ks.len,oB m.ks.nat m.ks.blk⟩,⟨by rw[Below.heap_setCell _ _ _ gd (fun e=>m.ne e.symm)];exact m.kd.blk,m.kd.len,oB m.kd.nat m.ks.blk⟩,m.ne,m.hs,m.hd,m.hb.setCell (by exact m.hs) _⟩
def Ivs (n:Nat) (xs:Nat→Nat×Nat):Prop:=∀i,i<n→Iv (xs i).1 (xs i).2
theorem xp (ao bo:Option Addr) (n na ac bc:Nat) (xs ys:Nat→Nat×Nat) (w:World) (hx:BxV w ao na xs) (hy:BxV w bo n ys) (hna:na=n*n) (hn:n≤4) (ix:Ivs na xs):
  ax 138 #[.slice ao na ac,.slice bo n bc] w fun e w'=>∃r,e= .returned (.bool r)∧(r=true→∀i,i<n→tu n xs ys i)∧Below w.heap.size w w':=by
 have HX:=hid hx;have HY:=hid hy;have IX:=hid ix;have HNA:=hid hna;clear hx hy ix hna;go_enter Tryz.func138,Tryz.ntmps138;go_wp2
 go_loopw [6] (fun x wr=>∃i:Nat,i≤n∧x=iV (i:Int)∧(∀k,k<i→tu n xs ys k)∧Below w.heap.size w wr) (fun x _=>n-(intOf x).toNat)
 case atStart=>exact⟨0,Nat.zero_le _,rfl,fun i hi=>by omega,Below.refl _ _⟩
 case round=>
  obtain⟨i,hi1,rfl,hr,hb⟩:=hrel;have HR:=hid hr;have HB:=hid hb;clear hr hb;by_cases hin:i<n
  ·have gi:decide ((i:Int)<(n:Int))=true:=decide_eq_true (by omega);obtain⟨g,off,rfl,hg,hc⟩:=HY.out.resolve_left (by omega);obtain⟨c1,c2⟩:=hc i hin;rw[←HB.out.cell (by exact hg)] at c1 c2;have hgl:g<wr.heap.size:=Nat.lt_of_lt_of_le hg HB.out.size;by_cases hyy:(ys i).1=(ys i).2
   ·have HYY:=hid hyy;rw[←hyy] at c2;clear hyy hc hg;generalize(ys i).1=y1 at c1 c2;go_wp2_with fail
    go_cut [31] (fun s wc=>s= .bool false∧wc.heap=wr.heap∧Below w.heap.size w wc)
    case first=>
     have BD:=hid HB.out.drew;go_region
     all_goals(go_wp2_with fail;go_meet)
     all_goals exact⟨by simp,rfl,BD.out⟩
    case rest=>
     obtain⟨rfl,-,hbc⟩:=hcut;have HB2:=hid hbc;clear HB c1 c2 hbc hgl HY;go_wp2_with fail
     have SM0:Hid (SuM w ((wc.alloc (.cells #[.bool false,.slice none 0 0,iV 0] 92)).alloc (.cells #[.bool false,.slice none 0 0,iV 0] 92)) wc.heap.size (wc.heap.size+1) (false,0,0) (false,0,0) none 0 0 none 0 0):=by
      have B1:=af (wc.alloc (.cells #[.bool false,.slice none 0 0,iV 0] 92)) (.cells #[.bool false,.slice none 0 0,iV 0] 92);simp only[World.size_alloc] at B1;have hs:=HB2.out.size;exact⟨⟨ai (af wc _) _,by simp[cK],aq.zero _⟩,⟨B1,by simp[cK],aq.zero _⟩,by omega,hs,by omega,(HB2.out.alloc hs _).alloc (by simp;omega) _⟩
     clear HB2;generalize((wc.alloc (.cells #[.bool false,.slice none 0 0,iV 0] 92)).alloc (.cells #[.bool false,.slice none 0 0,iV 0] 92))=W2 at*;generalize wc.heap.size=gs at*
     go_loopw [9] (fun x wy=>∃(j:Nat) (s d:ap) (so:Option Addr) (sl sc:Nat) (do_:Option Addr) (dl dc:Nat),j≤n∧x=iV (j:Int)∧SuM w wy gs (gs+1) s d so sl sc do_ dl dc∧jP n xs i j s d) (fun x _=>n-(intOf x).toNat)
     case atStart=>exact⟨0,_,_,_,_,_,_,_,_,Nat.zero_le _,rfl,SM0.out,jP.start _ _ _⟩
     case round=>
      obtain⟨j,s,d,so,sl,sc,do_,dl,dc,hj1,rfl,hm,hs⟩:=hrel;have SM:=hid hm;have SS:=hid hs;clear hm hs SM0;by_cases hj:j<n
      ·have hidx:n*i+j<na:=by
        have:n*(i+1)≤n*n:=Nat.mul_le_mul_left n (by omega);have:=HNA.out;have h3:n*(i+1)=n*i+n:=Nat.mul_succ n i;omega
       obtain⟨ga,offa,rfl,hga,hca⟩:=HX.out.resolve_left (by omega);obtain⟨a1,a2⟩:=hca _ hidx;rw[←SM.out.hb.cell (by exact hga)] at a1 a2;have hgl:ga<wr.heap.size:=Nat.lt_of_lt_of_le hga SM.out.hb.size;have iv:=IX.out _ hidx;have SO:=hid (SS.out.other (j:=j));have SM4S:=hid (SS.out.bs.sm (by omega) (by omega))
       have SA:Hid (∀hij:i=j,(xs (n*i+j)).1=(xs (n*i+j)).2→Pl (plT (xs (n*i+j)).1)→jP n xs i (j+1) s (iS (plT (xs (n*i+j)).1))):=by
        intro hij h1 h2;subst hij;exact SS.out.same h1 h2
       have hmul:(n:Int)*(i:Int)=((n*i:Nat):Int):=by simp
       have hni:n*i≤16:=Nat.mul_le_mul hn (by omega:i≤4);have PL:=hid (ct iv.p1);have MG:=hid (du (xs (n*i+j)).1 (xs (n*i+j)).2 iv.lt1 iv.lt2);rw[dm iv] at MG;simp only at MG;generalize hpt:xs (n*i+j)=pt at*;generalize n*i=ni at*;obtain⟨p1,p2⟩:=pt;simp only at*;clear iv hca hga;by_cases hp:p1=p2
       ·subst hp;go_wp2_with fail;have ha1:Below wr.heap.size wr (wr.alloc (.cells #[nV p1,nV p1] 28)):=aK.alloc ae _;generalize(wr.alloc (.cells #[nV p1,nV p1] 28))=W3 at*;refine (MG.out _).mono ?_;rintro e w3 ⟨ao1,la,ca,bo1,lb,cb,rfl,hla,hlb,hna1,hnb1,hbk⟩;have SM3:=hid ((SM.out.below ha1).below hbk);have ha2:Below w3.heap.size w3 (w3.alloc (.cells #[.bool (plT p1).1,.slice ao1 la ca,iV (plT p1).2.2,.bool (plT p1).1,.slice bo1 lb cb,iV (plT p1).2.2] 98)):=aK.alloc ae _;have N3:=hid hna1;have LA:=hid hla;clear hna1 hla hlb hnb1 hbk ha1 SM MG a1 a2 SS HX HR IX;generalize plT p1=x at*;go_wp2_with fail;generalize(w3.alloc (.cells #[.bool x.1,.slice ao1 la ca,iV x.2.2,.bool x.1,.slice bo1 lb cb,iV x.2.2] 98))=W4 at*;refine (r8 _ _ _ _ _ _).mono ?_;rintro e w4 ⟨rfl,hb4⟩;have hb34:=ha2.trans (hb4.mono ha2.size);have SM4:=hid (SM3.out.below hb34);have N4:=hid (N3.out.below hb34 ae);clear hb4 ha2 hb34 SM3 N3;by_cases hij:i=j
        ·have gij:((i:Int)==(j:Int))=true:=by rw[beq_iff_eq];omega
         have SN:=hid (SA.out hij (by first|rfl|trivial) PL.out);have MN:=hid ((SM4.out.setD (x:=iS x) (xo:=ao1) (xl:=la) (xc:=ca) LA.out N4.out).below (aK.alloc ae (.cells #[.bool false,.slice ao1 la ca,iV x.2.2] 92)));obtain⟨d0,d1,d2,f0,f1,f2⟩:=aB SM4.out.kd.blk;have hlt:=ag SM4.out.kd.blk;clear SO SA PL LA N4 SM4 hij;go_wp2;go_roundw
         case rel=>first|exact⟨j+1,_,_,_,_,_,_,_,_,by omega,by go_num,MN.out,SN.out⟩|((repeat apply Exists.intro);exact⟨⟨j+1,_,_,_,_,_,_,_,_,by omega,by go_num,MN.out,SN.out⟩,rfl⟩)
         case measure=>simp[intOf];omega
        ·have gij:((i:Int)==(j:Int))=false:=by rw[beq_eq_false_iff_ne];omega
         have SN:=hid (SO.out (by first|rfl|trivial) PL.out hij);have ha5:Below w4.heap.size w4 (w4.alloc (.cells #[.bool false,.slice ao1 la ca,iV x.2.2] 92)):=aK.alloc ae _;have SM5:=hid (SM4.out.below ha5);have HSM:=hid (kH (x:=s) (y:=iS x) (SM4S.out) (PL.out.bq.amt.sm (by omega) (by omega)) (w4.alloc (.cells #[.bool false,.slice ao1 la ca,iV x.2.2] 92)) so ao1 sl sc la ca SM5.out.ks.len SM5.out.ks.nat LA.out (N4.out.below ha5 ae));obtain⟨s0,s1,s2,-,-,-⟩:=aB SM4.out.ks.blk;have hlt:=ag SM4.out.ks.blk;clear SO SA PL LA N4 hij;go_wp2_with fail;generalize(w4.alloc (.cells #[.bool false,.slice ao1 la ca,iV x.2.2] 92))=W5 at*;refine Calls.mono HSM.out ?_;rintro e w6 ⟨vo,vl,vc,rfl,hvl,hvn,hb6⟩;have SM6:=hid (SM5.out.below hb6);have MN:=hid (SM6.out.setS hvl hvn);clear hvl hvn hb6 SM5 SM4 ha5 HSM s0 s1 s2 hlt;obtain⟨s0,s1,s2,f0,f1,f2⟩:=aB SM6.out.ks.blk;have hlt:=ag SM6.out.ks.blk;clear SM6;generalize sumT s (iS x)=st at*;go_wp2;go_roundw
         case rel=>first|exact⟨j+1,_,_,_,_,_,_,_,_,by omega,by go_num,MN.out,SN.out⟩|((repeat apply Exists.intro);exact⟨⟨j+1,_,_,_,_,_,_,_,_,by omega,by go_num,MN.out,SN.out⟩,rfl⟩)
         case measure=>simp[intOf];omega
       ·have g2:((p1:Int) !=(p2:Int))=true:=by rw[bne_iff_ne];omega
        have BB:=hid SM.out.hb;clear SM SS SO SA MG PL HR;go_wp2
        go_ret
        exact⟨false,rfl,(fun h=>by cases h),(BB.out.alloc BB.out.size _)⟩
      ·obtain rfl:n=j:=by omega
       have SB:=hid (SS.out.bs.sm (by omega) (by omega));have DB:=hid (SS.out.bd.sm (by omega) (by omega));have DN:Hid (lessT d (fourT s)=false→sgnI d.1 d.2.1≠0→tu n xs ys i):=fun h1 h2=>SS.out.done hin HYY.out h1 h2
       have q1:=SS.out.bs.l;have q2:=SS.out.bs.u;have hw4:IntKind.i64.wrap (s.2.2+2)=s.2.2+2:=by rw[IntKind.wrap_i64];omega
       have F4:Hid (Sm (fourT s)):=⟨SB.out.b,by have:=SS.out.bs.l;unfold fourT;simp only;omega,by have:=SS.out.bs.u;unfold fourT;simp only;omega⟩;have SM7:=hid SM.out.setE;obtain⟨s0,s1,s2,f0,f1,f2⟩:=aB SM.out.ks.blk;have hlt:=ag SM.out.ks.blk;clear SS HX IX
       go_upto_region 21 with fail
       generalize(wr.setCell ⟨gs,2,none⟩ (iV (s.2.2+2)))=W7 at*;clear SM s0 s1 s2 f0 f1 f2 hlt hw4 q1 q2;obtain⟨s0,s1,s2,-,-,-⟩:=aB SM7.out.ks.blk;obtain⟨d0,d1,d2,-,-,-⟩:=aB SM7.out.kd.blk;have hlt:=ag SM7.out.ks.blk;have hltd:=ag SM7.out.kd.blk;have HLS:=hid (jC DB.out F4.out W7 do_ so dl dc sl sc SM7.out.kd.len SM7.out.kd.nat SM7.out.ks.len SM7.out.ks.nat);generalize fourT s=s4 at*;go_wp2_with fail;refine Calls.mono HLS.out ?_;rintro e w8 ⟨rfl,hb8⟩;have SM8:=hid (SM7.out.below hb8);have BB:=hid SM8.out.hb;have HSG:=hid (fw _ d.1 d.2.1 d.2.2 w8 ⟨do_,dl,dc,rfl,SM8.out.kd.len,SM8.out.kd.nat⟩);obtain⟨d0',d1',d2',-,-,-⟩:=aB SM8.out.kd.blk;have hltd':=ag SM8.out.kd.blk;clear hb8 SM7 HLS s0 s1 s2 d0 d1 d2 hlt hltd SM8 F4 SB DB;generalize lessT d s4=r1 at*
       cases r1 with
       |true=>
        go_wp2
        go_ret
        exact⟨false,rfl,(fun h=>by cases h),BB.out⟩
       |false=>
        go_wp2_with fail;refine Calls.mono HSG.out ?_;rintro e w9 ⟨rfl,hb9⟩;have BB9:=hid (BB.out.trans (hb9.mono BB.out.size));clear hb9 BB HSG d0' d1' d2' hltd';by_cases hz:sgnI d.1 d.2.1=0
        ·have gz:(sgnI d.1 d.2.1==0)=true:=by rw[beq_iff_eq];exact hz
         clear hz;go_wp2
         go_ret
         exact⟨false,rfl,(fun h=>by cases h),BB9.out⟩
        ·have gz:(sgnI d.1 d.2.1==0)=false:=by rw[beq_eq_false_iff_ne];exact hz
         have HRN:Hid (∀k,k<i+1→tu n xs ys k):=fun k hk=>by
          by_cases hki:k=i
          ·rw[hki];exact DN.out (by first|rfl|trivial) hz
          ·exact HR.out k (by omega)
         clear hz HR DN;go_wp2;go_roundw
         case rel=>first|exact⟨i+1,by omega,by go_num,HRN.out,BB9.out⟩|((repeat apply Exists.intro);exact⟨⟨i+1,by omega,by go_num,HRN.out,BB9.out⟩,rfl⟩)
         case measure=>simp[intOf];omega
   ·have g2:(((ys i).1:Int) !=((ys i).2:Int))=true:=by rw[bne_iff_ne];omega
    have BD:=hid HB.out.drew;clear HR HX IX HY;go_wp2_with fail;go_region
    all_goals(go_wp2;go_ret;exact⟨false,rfl,(fun h=>by cases h),BD.out⟩)
  ·obtain rfl:n=i:=by omega
   go_wp2
   go_ret
   exact⟨true,rfl,fun _=>HR.out,HB.out⟩
structure NaM (w wr:World) (gS:Nat) (x y:ap) (ao:Option Addr) (la ca:Nat) (bo:Option Addr) (lb cb:Nat) (q:ap) (qo:Option Addr) (ql qc:Nat):Prop where
 kg:NBk wr w.heap.size q qo ql qc
 kS:wr.heap[gS]?=some (.cells #[.bool false,.slice ao la ca,iV x.2.2,.bool false,.slice bo lb cb,iV y.2.2] 92 (0,0))
 nx:aq wr (.slice ao la ca) x.2.1
 ny:aq wr (.slice bo lb cb) y.2.1
 ne:gS≠w.heap.size
 hb:Below w.heap.size w wr
theorem NaM.below {w wr W:World} {gS:Nat} {x y q:ap} {ao bo qo:Option Addr} {la ca lb cb ql qc:Nat} (m:NaM w wr gS x y ao la ca bo lb cb q qo ql qc) (hb:Below wr.heap.size wr W):NaM w W gS x y ao la ca bo lb cb q qo ql qc:=
 ⟨m.kg.below hb,aa m.kS hb,m.nx.below hb ae,m.ny.below hb ae,m.ne,m.hb.trans (hb.mono m.hb.size)⟩
theorem NaM.set {w wr:World} {gS:Nat} {x y q p:ap} {ao bo qo po:Option Addr} {la ca lb cb ql qc pl pc:Nat} (m:NaM w wr gS x y ao la ca bo lb cb q qo ql qc) (hl:pl=(digits p.2.1).length) (hn:aq wr (.slice po pl pc) p.2.1):NaM w (((wr.setCell ⟨w.heap.size,0,none⟩ (.bool p.1)).setCell ⟨w.heap.size,1,none⟩ (.slice po pl pc)).setCell ⟨w.heap.size,2,none⟩ (iV p.2.2)) gS x y ao la ca bo lb cb p po pl pc:=
 ⟨⟨aY m.kg.blk,hl,bM hn m.kg.blk⟩,aD m.kS m.ne,bM m.nx m.kg.blk,bM m.ny m.kg.blk,m.ne,((m.hb.setCell ae _).setCell ae _).setCell ae _⟩
def GrP (xs:Nat→Nat×Nat) (i:Nat) (q:ap):Prop:=(∀j,j<i→ab (aF (xs j).1)≤aI q∧ab (aF (xs j).2)≤aI q)∧Bq 952 952 q
structure GrQ (xs:Nat→Nat×Nat) (i:Nat) (x y:ap) (j:Nat) (q:ap):Prop where
 p:GrP xs i q
 a:0<j→ab (aI x)≤aI q
 b:1<j→ab (aI y)≤aI q
theorem GrQ.step {xs:Nat→Nat×Nat} {i:Nat} {x y:ap} {j:Nat} {q v:ap} (h:GrQ xs i x y j q) (hv:v=if j=0 then iS x else iS y) (hj:j<2) (bv:Bq 952 952 v):(lessT q v=true→GrQ xs i x y (j+1) v)∧(lessT q v=false→GrQ xs i x y (j+1) q):=by
 have hl:=jM q v
 have hvv:(j=0→aI v=ab (aI x))∧(j=1→aI v=ab (aI y)):=by
  constructor
  ·intro h0;rw[hv,if_pos h0,pM]
  ·intro h0;rw[hv,if_neg (by omega),pM]
 constructor
 ·intro ht;have hlt:=hl.1 ht;refine⟨⟨fun k hk=>?_,bv⟩,fun _=>?_,fun hb=>?_⟩
  ·have:=h.p.1 k hk;grind
  ·by_cases h0:j=0
   ·rw[hvv.1 h0];grind
   ·have:=h.a (by omega);grind
  ·rw[hvv.2 (by omega)];grind
 ·intro hf
  have hle:aI v≤aI q:=by
   apply Decidable.byContradiction;intro hc;rw[hl.2 (by grind)] at hf
   cases hf
  refine⟨h.p,fun _=>?_,fun hb=>?_⟩
  ·by_cases h0:j=0
   ·have:=hvv.1 h0;grind
   ·exact h.a (by omega)
  ·have:=hvv.2 (by omega);grind
def shrT (x:ap):ap:=(x.1,x.2.1,x.2.2-30)
theorem FP (x:ap):aI (shrT x)=aI x / 1073741824:=by
 unfold shrT aI;simp only;have h:=bT (x.2.2-30) 30;rw[show x.2.2-30+30=x.2.2 by omega] at h;have h2:=eU 30;rw[show((30:Nat):Int)=30 by rfl,show(2^30:Nat)=1073741824 by decide] at h2;rw[h2] at h;rw[h];have:((1073741824:Nat):Rat)=1073741824:=by rfl
 rw[this];grind
theorem Ai (so:Option Addr) (n sc:Nat) (xs:Nat→Nat×Nat) (w:World) (hx:BxV w so n xs) (hn:n≤4) (ix:Ivs n xs) (hN:∀G:Rat,(∀j,j<n→ab (aF (xs j).1)≤G∧ab (aF (xs j).2)≤G)→∀i,i<n→aF (xs i).2-aF (xs i).1≤G / 1073741824):
  aw 140 #[.slice so n sc] w (.bool true):=by
 have HX:=hid hx;have IX:=hid ix;have HN:=hid hN;clear hx ix hN;have HAM:Hid (∀(s:Bool) (o:Option Addr) (l c:Nat) (e:Int) (w:World),aw 169 #[.agg #[.bool s,.slice o l c,iV e]] w (.agg #[.bool false,.slice o l c,iV e])):=r8;go_enter Tryz.func140,Tryz.ntmps140;go_wp2_with fail;have K0:Hid (NBk (w.alloc (.cells #[.bool false,.slice none 0 0,iV 0] 92)) w.heap.size (false,0,0) none 0 0):=⟨af w _,by simp[cK],aq.zero _⟩;have B0:Hid (Below w.heap.size w (w.alloc (.cells #[.bool false,.slice none 0 0,iV 0] 92))):=aK.alloc ae _;generalize(w.alloc (.cells #[.bool false,.slice none 0 0,iV 0] 92))=W1 at*
 go_loopw [4] (fun x wr=>∃(i:Nat) (q:ap) (qo:Option Addr) (ql qc:Nat),i≤n∧x=iV (i:Int)∧NBk wr w.heap.size q qo ql qc∧GrP xs i q∧Below w.heap.size w wr) (fun x _=>n-(intOf x).toNat)
 case atStart=>exact⟨0,_,_,_,_,Nat.zero_le _,rfl,K0.out,⟨fun j hj=>by omega,Bq.zero _ _⟩,B0.out⟩
 case round=>
  obtain⟨i,q,qo,ql,qc,hi1,rfl,hk,hg,hb⟩:=hrel;have KQ:=hid hk;have GP:=hid hg;have HB:=hid hb;clear hk hg hb K0 B0;by_cases hin:i<n
  ·obtain⟨g,off,rfl,hg,hc⟩:=HX.out.resolve_left (by omega);obtain⟨c1,c2⟩:=hc i hin;rw[←HB.out.cell (by exact hg)] at c1 c2;have hgl:g<wr.heap.size:=Nat.lt_of_lt_of_le hg HB.out.size;have iv:=IX.out i hin;have MG:=hid (du (xs i).1 (xs i).2 iv.lt1 iv.lt2);rw[dm iv] at MG;simp only at MG;have P1:=hid (ct iv.p1);have P2:=hid (ct iv.p2)
   have GN:Hid (∀q,GrQ xs i (plT (xs i).1) (plT (xs i).2) 2 q→GrP xs (i+1) q):=fun q h=>⟨fun j hj=>by
    by_cases hji:j=i
    ·subst hji;exact⟨h.a (by omega),h.b (by omega)⟩
    ·exact h.p.1 j (by omega),h.p.2⟩
   have GQ0:Hid (GrQ xs i (plT (xs i).1) (plT (xs i).2) 0 q):=⟨GP.out,fun h=>by omega,fun h=>by omega⟩;generalize plT (xs i).1=x at*;generalize plT (xs i).2=y at*;generalize(xs i).1=y1 at c1 MG;generalize(xs i).2=y2 at c2 MG;clear hc hg iv GP;go_wp2_with fail;refine (MG.out _).mono ?_;rintro e w1 ⟨ao,la,ca,bo,lb,cb,rfl,hla,hlb,hna,hnb,hbk⟩;have K1:=af w1 (.cells #[.bool x.1,.slice ao la ca,iV x.2.2,.bool y.1,.slice bo lb cb,iV y.2.2] 98);have ha:Below w1.heap.size w1 (w1.alloc (.cells #[.bool x.1,.slice ao la ca,iV x.2.2,.bool y.1,.slice bo lb cb,iV y.2.2] 98)):=aK.alloc ae _;have N1:=hid (hna.below ha ae);have N2:=hid (hnb.below ha ae);have L1:=hid hla;have L2:=hid hlb;have KQ2:=hid ((KQ.out.below hbk).below ha);have hb1:=HB.out.trans (hbk.mono HB.out.size);have HB2:=hid (hb1.trans (ha.mono hb1.size));clear hla hlb hna hnb hbk MG HB hb1 ha c1 c2 KQ hgl;go_wp2_with fail;generalize(w1.alloc (.cells #[.bool x.1,.slice ao la ca,iV x.2.2,.bool y.1,.slice bo lb cb,iV y.2.2] 98))=W2 at*;generalize w1.heap.size=gI at*;have KI:=hid K1;clear K1
   go_cut [32,33,34] (fun s32 s33 s34 wc=>∃gS,s32= .slice (some ⟨gS,0,none⟩) 2 2∧s33=iV 2∧s34=iV 0∧wc.heap[gS]?=some (.cells #[.bool false,.slice ao la ca,iV x.2.2,.bool false,.slice bo lb cb,iV y.2.2] 92 (0,0))∧W2.heap.size≤gS∧Below W2.heap.size W2 wc)
   case first=>
    have iN:Hid (Below W2.heap.size W2 W2.drew):=aK.drew;have KD:Hid (W2.drew.heap[gI]?=some (.cells #[.bool x.1,.slice ao la ca,iV x.2.2,.bool y.1,.slice bo lb cb,iV y.2.2] 98 (0,0))):=KI.out
    have hci:Hid (∀W:World,W.heap[gI]?=some (.cells #[.bool x.1,.slice ao la ca,iV x.2.2,.bool y.1,.slice bo lb cb,iV y.2.2] 98 (0,0))→W.cell? ⟨gI,0,none⟩=some (.bool x.1)∧W.cell? ⟨gI,1,none⟩=some (.slice ao la ca)∧W.cell? ⟨gI,2,none⟩=some (iV x.2.2)∧W.cell? ⟨gI,3,none⟩=some (.bool y.1)∧W.cell? ⟨gI,4,none⟩=some (.slice bo lb cb)∧W.cell? ⟨gI,5,none⟩=some (iV y.2.2)):=fun W h=>by
     obtain⟨a0,a1,a2,a3,a4,a5,-⟩:=bH h;exact⟨a0,a1,a2,a3,a4,a5⟩
    obtain⟨a0,a1,a2,a3,a4,a5,-⟩:=bH KI.out;have hlt:=ag KI.out
    go_region_held3 (fun W=>W.cell? ⟨gI,0,none⟩=some (.bool x.1)∧W.cell? ⟨gI,1,none⟩=some (.slice ao la ca)∧W.cell? ⟨gI,2,none⟩=some (.int .i64 x.2.2)∧W.cell? ⟨gI,3,none⟩=some (.bool y.1)∧W.cell? ⟨gI,4,none⟩=some (.slice bo lb cb)∧W.cell? ⟨gI,5,none⟩=some (.int .i64 y.2.2)) (first|with_reducible exact hci.out _ KD.out|exact hci.out _ (ai KD.out _))
     (first
       |(go_at_call 169;with_reducible (refine (HAM.out _ _ _ _ _ _).mono ?_);rintro e v0 ⟨rfl,hbk⟩
         have KD:=hid (aa KD.out hbk);have iN:=hid (iN.out.trans (hbk.mono iN.out.size));clear hbk))
    all_goals(go_wp2_with fail;go_meet)
    all_goals exact⟨_,rfl,rfl,rfl,af _ _,iN.out.size,iN.out.alloc iN.out.size _⟩
   case rest=>
    obtain⟨gS,rfl,rfl,rfl,hS,hge,hbc⟩:=hcut;have NM:Hid (NaM w wc gS x y ao la ca bo lb cb q qo ql qc):=⟨KQ2.out.below hbc,hS,N1.out.below hbc ae,N2.out.below hbc ae,by have:=ag KQ2.out.blk;omega,HB2.out.trans (hbc.mono HB2.out.size)⟩;clear hS hge hbc KQ2 N1 N2 HB2 KI HX IX HN HAM;go_wp2_with fail
    go_loopw [34] (fun x' wy=>∃(j:Nat) (q:ap) (qo:Option Addr) (ql qc:Nat),j≤2∧x'=iV (j:Int)∧NaM w wy gS x y ao la ca bo lb cb q qo ql qc∧GrQ xs i x y j q) (fun x' _=>2-(intOf x').toNat)
    case atStart=>exact⟨0,_,_,_,_,Nat.zero_le _,rfl,NM.out,GQ0.out⟩
    case round=>
     obtain⟨j,q,qo,ql,qc,hj1,rfl,hm,hq⟩:=hrel;have NM:=hid hm;have GQ:=hid hq;clear hm hq GQ0;by_cases hj:j<2
     ·have EL:∃(v:ap) (vo:Option Addr) (vl vc:Nat),wr.cell? ⟨gS,j*3,none⟩=some (.bool v.1)∧wr.cell? ⟨gS,j*3+1,none⟩=some (.slice vo vl vc)∧wr.cell? ⟨gS,j*3+2,none⟩=some (iV v.2.2)∧vl=(digits v.2.1).length∧aq wr (.slice vo vl vc) v.2.1∧Bq 952 952 v∧v=if j=0 then iS x else iS y:=by
       obtain⟨a0,a1,a2,a3,a4,a5,-⟩:=bH NM.out.kS;rcases(show j=0∨j=1 by omega) with rfl|rfl
       ·exact⟨iS x,ao,la,ca,a0,a1,a2,L1.out,NM.out.nx,P1.out.bq.amt,by rw[if_pos rfl]⟩
       ·exact⟨iS y,bo,lb,cb,a3,a4,a5,L2.out,NM.out.ny,P2.out.bq.amt,by rw[if_neg (by omega)]⟩
      obtain⟨v,vo,vl,vc,e0,e1,e2,hvl,hvn,hvb,hvv⟩:=EL;have GS:=hid (GQ.out.step hvv hj hvb);have hlS:=ag NM.out.kS;have ha:Below wr.heap.size wr (wr.alloc (.cells #[.bool v.1,.slice vo vl vc,iV v.2.2] 92)):=aK.alloc ae _;have K7:=af wr (.cells #[.bool v.1,.slice vo vl vc,iV v.2.2] 92);have NM2:=hid (NM.out.below ha);have NV:=hid (hvn.below ha ae);have LV:=hid hvl;have HLS:=hid (jC (GQ.out.p.2.sm (by omega) (by omega)) (hvb.sm (by omega) (by omega)) (wr.alloc (.cells #[.bool v.1,.slice vo vl vc,iV v.2.2] 92)) qo vo ql qc vl vc NM2.out.kg.len NM2.out.kg.nat LV.out NV.out);obtain⟨q0,q1,q2,-,-,-⟩:=aB NM.out.kg.blk;have hlq:=ag NM.out.kg.blk;clear hvl hvn hvb hvv GQ ha NM;go_wp2_with fail;generalize(wr.alloc (.cells #[.bool v.1,.slice vo vl vc,iV v.2.2] 92))=W5 at*;generalize wr.heap.size=g7 at*;refine Calls.mono HLS.out ?_;rintro e w6 ⟨rfl,hb6⟩;have NM6:=hid (NM2.out.below hb6);have NV6:=hid (NV.out.below hb6 ae);have K8:=hid (aa K7 hb6);clear hb6 NM2 NV K7 HLS q0 q1 q2 hlq e0 e1 e2 hlS;generalize lessT q v=r1 at*
      cases r1 with
      |true=>
       have NM7:=hid (NM6.out.set LV.out NV6.out);have G2:=hid (GS.out.1 rfl);obtain⟨v0,v1,v2,-,-,-⟩:=aB K8.out;obtain⟨q0,q1,q2,f0,f1,f2⟩:=aB NM6.out.kg.blk;have hlv:=ag K8.out;have hlq:=ag NM6.out.kg.blk;clear GS NM6 NV6 K8;go_wp2;go_roundw
       case rel=>first|exact⟨j+1,_,_,_,_,by omega,by go_num,NM7.out,G2.out⟩|((repeat apply Exists.intro);exact⟨⟨j+1,_,_,_,_,by omega,by go_num,NM7.out,G2.out⟩,rfl⟩)
       case measure=>simp[intOf];omega
      |false=>
       have G2:=hid (GS.out.2 rfl);clear GS NV6 K8;go_wp2;go_roundw
       case rel=>first|exact⟨j+1,_,_,_,_,by omega,by go_num,NM6.out,G2.out⟩|((repeat apply Exists.intro);exact⟨⟨j+1,_,_,_,_,by omega,by go_num,NM6.out,G2.out⟩,rfl⟩)
       case measure=>simp[intOf];omega
     ·obtain rfl:j=2:=by omega
      have G3:=hid (GN.out q GQ.out);have KN:=hid NM.out.kg;have BN:=hid NM.out.hb;clear NM GQ GN;go_wp2;go_roundw
      case rel=>first|exact⟨i+1,_,_,_,_,by omega,by go_num,KN.out,G3.out,BN.out⟩|((repeat apply Exists.intro);exact⟨⟨i+1,_,_,_,_,by omega,by go_num,KN.out,G3.out,BN.out⟩,rfl⟩)
      case measure=>simp[intOf];omega
  ·obtain rfl:n=i:=by omega
   have HW:=hid (HN.out (aI q) GP.out.1);have q1:=GP.out.2.l;have q2:=GP.out.2.u;have hw4:IntKind.i64.wrap (q.2.2-30)=q.2.2-30:=by rw[IntKind.wrap_i64];omega
   have SQ:Hid (Sm (shrT q)):=by
    have:=GP.out.2.sm (by omega) (by omega);exact⟨this.b,by unfold shrT;simp only;omega,by unfold shrT;simp only;omega⟩
   have KS:Hid (NBk (wr.setCell ⟨w.heap.size,2,none⟩ (iV (q.2.2-30))) w.heap.size (shrT q) qo ql qc):=⟨xH KQ.out.blk,KQ.out.len,oB KQ.out.nat KQ.out.blk⟩;have BS:Hid (Below w.heap.size w (wr.setCell ⟨w.heap.size,2,none⟩ (iV (q.2.2-30)))):=HB.out.setCell ae _;have VS:=hid (FP q);obtain⟨c0,c1,c2,f0,f1,f2⟩:=aB KQ.out.blk;have hlt:=ag KQ.out.blk;clear GP HB KQ HN HAM;go_wp2_with fail;generalize(wr.setCell ⟨w.heap.size,2,none⟩ (iV (q.2.2-30)))=W8 at*;generalize shrT q=q30 at*;clear c0 c1 c2 f0 f1 f2 hlt hw4 q1 q2
   go_loopw [9] (fun x wy=>∃k:Nat,k≤n∧x=iV (k:Int)∧Below W8.heap.size W8 wy) (fun x _=>n-(intOf x).toNat)
   case atStart=>exact⟨0,Nat.zero_le _,rfl,Below.refl _ _⟩
   case round=>
    obtain⟨k,hk1,rfl,hb⟩:=hrel;have HB:=hid hb;clear hb;by_cases hk:k<n
    ·obtain⟨g,off,rfl,hg,hc⟩:=HX.out.resolve_left (by omega);obtain⟨c1,c2⟩:=hc k hk;have hbw:=BS.out.trans (HB.out.mono BS.out.size);rw[←hbw.cell (by exact hg)] at c1 c2;have hgl:g<wr.heap.size:=Nat.lt_of_lt_of_le hg hbw.size;have iv:=IX.out k hk;have MG:=hid (du (xs k).1 (xs k).2 iv.lt1 iv.lt2);rw[dm iv] at MG;simp only at MG;have P1:=hid (ct iv.p1);have P2:=hid (ct iv.p2)
     have WD:Hid (aI (plT (xs k).2)-aI (plT (xs k).1)≤aI q30):=by
      show _≤_
      rw[VS.out];exact HW.out k hk
     have KQ:=hid (KS.out.below HB.out);have HBW:=hid hbw;generalize plT (xs k).1=x at*;generalize plT (xs k).2=y at*;generalize(xs k).1=y1 at*;generalize(xs k).2=y2 at*
     have LF:Hid (lessT q30 (sumT y (bC x))=false):=by
      show _=_
      cases h:lessT q30 (sumT y (bC x)) with
      |false=>rfl
      |true=>
       have h1:=(jM _ _).1 h;rw[mL,pJ] at h1;have h2:=WD.out;grind
     clear hc hg iv hbw HW WD IX HX BS;go_wp2_with fail;refine (MG.out _).mono ?_;rintro e w1 ⟨ao,la,ca,bo,lb,cb,rfl,hla,hlb,hna,hnb,hbk⟩;have ha:Below w1.heap.size w1 (w1.alloc (.cells #[.bool x.1,.slice ao la ca,iV x.2.2,.bool y.1,.slice bo lb cb,iV y.2.2] 98)):=aK.alloc ae _;have hB1:Below wr.heap.size wr (w1.alloc (.cells #[.bool x.1,.slice ao la ca,iV x.2.2,.bool y.1,.slice bo lb cb,iV y.2.2] 98)):=hbk.trans (ha.mono hbk.size);have K1:=af w1 (.cells #[.bool x.1,.slice ao la ca,iV x.2.2,.bool y.1,.slice bo lb cb,iV y.2.2] 98);have N1:=hid (hna.below ha ae);have N2:=hid (hnb.below ha ae);have L1:=hid hla;have L2:=hid hlb;have HB1:=hid hB1;clear hla hlb hna hnb hbk MG hB1 ha c1 c2 hgl;go_wp2_with fail;generalize(w1.alloc (.cells #[.bool x.1,.slice ao la ca,iV x.2.2,.bool y.1,.slice bo lb cb,iV y.2.2] 98))=W2 at*;generalize w1.heap.size=gI at*;refine (eM x W2 ao la ca L1.out N1.out).mono ?_;rintro e w3 ⟨no,nl,nc,rfl,hnl,hnn,hb3⟩;have K3:=hid (aa K1 hb3);have HB3:=hid (HB1.out.trans (hb3.mono HB1.out.size));have N3:=hid hnn;have L3:=hid hnl;have N4:=hid (N2.out.below hb3 ae);clear hb3 hnn hnl K1 HB1 N1 N2 L1;obtain⟨-,-,-,a3,a4,a5,-,-,-,-,-,-⟩:=bH K3.out;have hlI:=ag K3.out;have ha:Below w3.heap.size w3 (w3.alloc (.cells #[.bool (aQ x.1 x.2.1),.slice no nl nc,iV x.2.2] 92)):=aK.alloc ae _;have HSM:=hid (kH (x:=y) (y:=bC x) P2.out.sm P1.out.neg.sm (w3.alloc (.cells #[.bool (aQ x.1 x.2.1),.slice no nl nc,iV x.2.2] 92)) bo no lb cb nl nc L2.out (N4.out.below ha ae) L3.out (N3.out.below ha ae));have HB4:=hid (HB3.out.trans (ha.mono HB3.out.size));have SS:=hid (P2.out.sum P1.out.neg);clear ha N3 N4 L2 L3 HB3;go_wp2_with fail;generalize(w3.alloc (.cells #[.bool (aQ x.1 x.2.1),.slice no nl nc,iV x.2.2] 92))=W4 at*;refine Calls.mono HSM.out ?_;rintro e w5 ⟨vo,vl,vc,rfl,hvl,hvn,hb5⟩;generalize sumT y (bC x)=st at*;have HB5:=hid (HB4.out.trans (hb5.mono HB4.out.size));have ha:Below w5.heap.size w5 (w5.alloc (.cells #[.bool st.1,.slice vo vl vc,iV st.2.2] 92)):=aK.alloc ae _;have KQ5:=hid (KQ.out.below HB5.out);have KQ6:=hid (KQ5.out.below ha);have HLS:=hid (jC SQ.out SS.out (w5.alloc (.cells #[.bool st.1,.slice vo vl vc,iV st.2.2] 92)) qo vo ql qc vl vc KQ6.out.len KQ6.out.nat hvl (hvn.below ha ae));rw[LF.out] at HLS;obtain⟨q0,q1,q2,-,-,-⟩:=aB KQ5.out.blk;have hlq:=ag KQ5.out.blk;have HB6:=hid (HB5.out.trans (ha.mono HB5.out.size));clear hvl hvn hb5 ha HSM KQ K3 HB4 a3 a4 a5 KQ5 KQ6 HB5;go_wp2_with fail;generalize(w5.alloc (.cells #[.bool st.1,.slice vo vl vc,iV st.2.2] 92))=W6 at*;refine Calls.mono HLS.out ?_;rintro e w7 ⟨rfl,hb7⟩;have hB7:=HB6.out.trans (hb7.mono HB6.out.size);have HB7:=hid (HB.out.trans (hB7.mono HB.out.size));clear hb7 hB7 HB6 HLS q0 q1 q2 hlq;go_wp2;go_roundw
     case rel=>exact⟨k+1,by omega,by go_num,HB7.out⟩
     case measure=>simp[intOf];omega
    ·have HBF:=hid (BS.out.trans (HB.out.mono BS.out.size));go_wp2
     go_ret
     exact⟨rfl,HBF.out⟩
end
end Go.Proofs.YtonhpkigoplmaaaGreatDoor
