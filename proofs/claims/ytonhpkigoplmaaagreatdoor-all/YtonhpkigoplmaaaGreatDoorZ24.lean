import Derived.Maps.AppendAt
import Derived.Shelf.RegionOpen
import Derived.LoopNIn
import Derived.LoopIn
import Derived.Test.YtonhpkigoplmaaaGreatDoorZ23
set_option maxRecDepth 100000
set_option maxHeartbeats 40000000
namespace Go.Proofs.YtonhpkigoplmaaaGreatDoor
section
open Go.RowKit Go.Shelf
attribute [local go_sem] av
attribute [local go_sem] Oper.semAt_some
theorem Dp:(Tryz.prog.info? 33).map (fun i=>(i.zero,i.size,i.bytes))=some (some (.agg #[uV 0,uV 0]),2,16):=by kernel_rfl
structure Rk (w W:World) (g b1 b2 b3 gq al ah n qc:Nat) (ps:Nat→Nat) (d stop:Int):Prop where
 hb:Below w.heap.size w W
 ks:Boxed W (w.heap.size+1) 3 (iV stop)
 k1:Boxed W b1 80 (.slice (some ⟨gq,0,none⟩) n qc)
 k2:W.heap[b2]?=some (.cells #[fV al,fV ah] 67 (0,0))
 k3:Boxed W b3 3 (iV d)
 kq:∃cur,W.heap[gq]?=some (.cells cur 65 (0,0))∧∀i,i<n→cur[i]?=some (fV (ps i))
 g0:w.heap.size+1+1≤g
 n1:b1≠g
 n2:b2≠g
 n3:b3≠g
 nq:gq≠g
theorem Rk.grown {w W W':World} {g b1 b2 b3 gq al ah n qc:Nat} {ps:Nat→Nat} {d stop:Int} (m:Rk w W g b1 b2 b3 gq al ah n qc ps d stop) (h:W.grownBy W' (some g)):Rk w W' g b1 b2 b3 gq al ah n qc ps d stop:=by
 have e:∀k o,W.heap[k]?=some o→k≠g→W'.heap[k]?=some o:=fun k o hk hn=>(h.block k (ag hk) (fun e=>hn (by cases e;rfl))).trans hk
 obtain⟨cur,q1,q2⟩:=m.kq;have:=m.g0;exact⟨vM m.hb h (by omega),e _ _ m.ks (by omega),e _ _ m.k1 m.n1,e _ _ m.k2 m.n2,e _ _ m.k3 m.n3,⟨cur,e _ _ q1 m.nq,q2⟩,m.g0,m.n1,m.n2,m.n3,m.nq⟩
theorem Rk.below {w W W':World} {g b1 b2 b3 gq al ah n qc:Nat} {ps:Nat→Nat} {d stop:Int} (m:Rk w W g b1 b2 b3 gq al ah n qc ps d stop) (h:Below W.heap.size W W'):Rk w W' g b1 b2 b3 gq al ah n qc ps d stop:=by
 obtain⟨cur,q1,q2⟩:=m.kq;exact⟨m.hb.trans (h.mono m.hb.size),aa m.ks h,aa m.k1 h,aa m.k2 h,aa m.k3 h,⟨cur,aa q1 h,q2⟩,m.g0,m.n1,m.n2,m.n3,m.nq⟩
theorem Rk.flv {w W:World} {g b1 b2 b3 gq al ah n qc:Nat} {ps:Nat→Nat} {d stop:Int} (m:Rk w W g b1 b2 b3 gq al ah n qc ps d stop):FlV W (some ⟨gq,0,none⟩) n ps:=by
 obtain⟨cur,q1,q2⟩:=m.kq;exact .inr ⟨gq,0,rfl,ag q1,fun i hi=>by rw[bf q1,Nat.zero_add];exact q2 i hi⟩
theorem nX {F:Fence} {n:Nat} {P:Program} (w:World) {o:Oper} {a:Act} {next:Act→World→Prop} {Q:Exit→Act→World→Prop}
  (s x:Operand) (t:TypeId) (hop:o.op=Op.call {callee:=Callee.builtin Builtin.append,args:=#[s,x],argTypes:=#[t,t]})
  (base:Nat) (e:TypeId) (i:TypeInfo) (z:Value) (size bytes:Nat) (h1:P.underlying t=some (.slice e)) (h2:P.info? e=some i) (h3:i.zero=some z) (h4:i.size=size) (h5:i.bytes=bytes) (h6:z.cells.size=size) (h7:0<size)
  (v:Value) (k:Nat) (xs:List Value) (hs:a.eval s=v) (hown:w.ownsRow base e size v k xs) (ad:Addr) (m c:Nat) (news:List Value) (hx:a.eval x= .slice (some ad) m c) (hn:news.length=m*size)
  (hc:∀j u,news[j]?=some u→w.cell? (ad.add j)=some u) (h1c:∀u∈news,u.oneCell'=true) (b1:k+m≤maxLen) (b2:(k+m)*bytes≤140737488355328) (b3:base≤w.heap.size)
  (hK:∀v' w',w'.ownsRow base e size v' (k+m) (xs++news)→w.grownBy w' v.ownBlock→next (a.put o.dst v') w'):Oper.wpIn F n P o a w next Q:=by
 obtain⟨v',w',hrun,r1,r2,-⟩:=run_append_own (P:=P) w base t o.type e i z size bytes h1 h2 h3 h4 h5 h6 h7 v k xs hown ad m c news hn hc h1c b1 b2 b3;unfold Oper.wpIn;refine⟨by simp[Oper.about,hop,resolve,Target.leads,Sem.run_pure],?_⟩;rw[Oper.semAt_plain F _ _ (by rw[hop];intro c hc';cases hc')];simp[execOp,hop,resolve,invoke,builtin,hs,hx,hrun,Result.andThen];exact hK v' w' r1 r2
theorem q6 (A:Nat→Addr) (ao:Option Addr) (n c:Nat) (xl xh al ah:Nat) (ps:Nat→Nat) (dn:Nat) (stop:Int) (w:World) (hS:aE A w) (hn:n*8≤140737488355328) (hp:∀i,i<n→ps i<18446744073709551616) (hr:rightN ps n=0) (hd:dn≤8) (iv:Iv al ah) (L:List (Nat×Nat)) (hL:L=be ps n dn al ah)
  (hf:∀W,Below w.heap.size w W→ax 52 #[.slice ao n c] W fun e w'=>∃bo bc,e= .returned (.slice bo n bc)∧w'.ownsRow W.heap.size 65 1 (.slice bo n bc) n (fvs ps n)∧Below W.heap.size W w')
  (hx:∀W,Below w.heap.size w W→aw 40 #[gU xl xh] W (gF al ah))
  (hR:∀W bo bc,Below w.heap.size w W→W.ownsRow w.heap.size 65 1 (.slice bo n bc) n (fvs ps n)→ax 53 #[.slice bo n bc,gF al ah,iV (dn:Int)] W fun e w'=>∃b1 b2 b3 qo qc,e= .returned (.tuple #[(.func (.func 104) #[] #[.pointer (some ⟨b1,0,none⟩),.pointer (some ⟨b2,0,none⟩),.pointer (some ⟨b3,0,none⟩)]),.nilIface])∧W.heap.size≤b1∧W.heap.size≤b2∧W.heap.size≤b3∧Boxed w' b1 80 (.slice qo n qc)∧w'.heap[b2]?=some (.cells #[fV al,fV ah] 67 (0,0))∧Boxed w' b3 3 (iV (dn:Int))∧w'.ownsRow W.heap.size 65 1 (.slice qo n qc) n (fvs ps n)∧Below W.heap.size W w')
  (hc:∀W,Below w.heap.size w W→aw 49 #[.nilIface] W (.tuple #[iV 0,.string ⟨#[]⟩])):
  ax 23 #[.slice ao n c,gU xl xh,iV (dn:Int),iV stop] w fun e w'=>∃v1 v2,e= .returned (.tuple #[v1,v2,iV 0])∧w'.ownsRow w.heap.size 33 2 v1 L.length (bvs L)∧w'.ownsRow w.heap.size 33 2 v2 (dr L stop).length (bvs (dr L stop))∧Below w.heap.size w w':=by
 have hn1:=(dR hr).1;have hnf:=fun(w:World) (fn:Fn) (a b:Array Value)=>EF (P:=Tryz.prog) w 82 Tryz.underlying82 fn a b
 have HF:=hid hf;have HX:=hid hx;have HR:=hid hR;have HC:=hid hc;have HS:=hid hS;have HP:=hid hp;have HRT:=hid hr;have HIV:=hid iv;have HLL:=hid hL
 have hlen:Hid (L.length≤256):=by
  show L.length≤256
  rw[hL];have:=ig ps n dn al ah;have h2:2^dn≤2^8:=Nat.pow_le_pow_right (by decide) hd;have h3:2^8=256:=by decide
  omega
 have HDN:=hid hd;clear hf hx hR hc hS hp hr iv hL hd;obtain⟨i0,hi,hz0,hz1,hz2⟩:=info_parts Dp;have HBX:Hid (∀(x y:Nat) (W:World),aw 50 #[gF x y] W (gU x y)):=fun x y W=>gR x y W
 refine(callsIn_wide (n:=5)).1 ?_;refine callsIn_of_wp_marks Tryz.func23 rfl trivial ?_ rfl;simp only[Tryz.ntmps23,List.size_toArray,List.length_cons,List.length_nil,Nat.reduceAdd,Nat.reduceSub,Array.replicate_succ,Array.replicate_zero,List.push_toArray,List.append_toArray,List.nil_append,List.cons_append];gi_wp2_with fail;have hW:Below w.heap.size w ((w.alloc (.cells #[nV xl,nV xh] 33)).alloc (.cells #[iV stop] 3)):=aJ.alloc (by simp) _;have B1:=ai (af w (.cells #[nV xl,nV xh] 33)) (.cells #[iV stop] 3);have B2:Boxed ((w.alloc (.cells #[nV xl,nV xh] 33)).alloc (.cells #[iV stop] 3)) (w.alloc (.cells #[nV xl,nV xh] 33)).heap.size _ _:=Boxed.new _ _ _;rw[World.size_alloc] at B2;have hsz:w.heap.size+1+1≤((w.alloc (.cells #[nV xl,nV xh] 33)).alloc (.cells #[iV stop] 3)).heap.size:=by simp
 generalize((w.alloc (.cells #[nV xl,nV xh] 33)).alloc (.cells #[iV stop] 3))=W1 at*;refine⟨trivial,?_⟩;refine CallsIn.mono (callsIn_wide.2 (HF.out _ hW)) ?_;rintro e w1 ⟨bo,bc,rfl,ho,hb1⟩;obtain⟨g,gc,ge,hg,hrw⟩:=(Row.of_owns ho).resolve_left (by omega)
 cases ge
 have HB:Hid (Below w.heap.size w w1):=hW.trans (hb1.mono hW.size);have K1:=hid (aa B1 hb1);have K2:Hid (Boxed w1 _ _ _):=aa B2 hb1;have HO:Hid (w1.ownsRow w.heap.size 65 1 (.slice (some ⟨g,0,none⟩) n bc) n (fvs ps n)):=aH ho aK hW.size;have HGL:Hid (w.heap.size+1+1≤g):=Nat.le_trans hsz hg;have HRW:=hid hrw;obtain⟨x0,x1,-,-⟩:=aj K1.out;have lx:=ag K1.out;clear hW hb1 HF B1 B2 ho hg hrw hsz;gi_wp2_with fail;refine⟨trivial,?_⟩;refine CallsIn.mono (callsIn_wide.2 (HX.out _ HB.out)) ?_;rintro e w2 ⟨rfl,hb2⟩;have HB2:Hid (Below w.heap.size w w2):=HB.out.trans (hb2.mono HB.out.size);have K2:Hid (Boxed w2 _ _ _):=aa K2.out hb2;have HO:Hid (w2.ownsRow w.heap.size 65 1 (.slice (some ⟨g,0,none⟩) n bc) n (fvs ps n)):=aH HO.out hb2 ae;have HRW:=hid (HRW.out.below hb2);clear hb2 HB HX x0 x1 lx K1;gi_wp2_with fail;refine⟨trivial,?_⟩;refine CallsIn.mono (callsIn_wide.2 (HR.out _ _ _ HB2.out HO.out)) ?_;rintro e w3 ⟨b1,b2,b3,qo,qc,rfl,p1,p2,p3,k1,k2,k3,ho,hb3⟩;obtain⟨gq,gcq,ge,hgq,-⟩:=(Row.of_owns ho).resolve_left (by omega)
 cases ge
 have hgw:g<w2.heap.size:=by obtain⟨cur,hh,-⟩:=HRW.out;exact ag hh
 have RK:Hid (Rk w w3 g b1 b2 b3 gq al ah n qc ps (dn:Int) stop):=by
  refine⟨HB2.out.trans (hb3.mono HB2.out.size),aa K2.out hb3,k1,k2,k3,?_,HGL.out,by omega,by omega,by omega,by omega⟩;obtain⟨-,h2⟩:=ho;rcases h2 with⟨h,-⟩|⟨g',cap,cur,e',-,hh,-,-,hs,ht⟩
  ·cases h
  ·cases e'
   refine⟨cur,hh,fun i hi=>?_⟩;have:=congrArg (fun x=>x[i]?) ht;simp only[Nat.mul_one,List.getElem?_take,hi,if_true,Array.getElem?_toList,fvs,List.getElem?_map] at this;rw[this];simp[hi]
 have HRW:=hid (HRW.out.below hb3);clear hb3 HB2 HR k1 k2 k3 ho p1 p2 p3 K2 HO hgq hgw HGL;gi_wp2_with fail;refine⟨trivial,?_⟩;refine CallsIn.mono (callsIn_wide.2 (HC.out _ RK.out.hb)) ?_;rintro e w4 ⟨rfl,hb4⟩;have RK:=hid (RK.out.below hb4);have HRW:=hid (HRW.out.below hb4);clear hb4 HC;gi_wp2_with fail
 gi_loopw [16,38] (fun _ v wr=>∃i:Nat,i≤n∧v=iV (i:Int)∧Row wr g n∧Rk w wr g b1 b2 b3 gq al ah n qc ps (dn:Int) stop) (fun _ v _=>n-(intOf v).toNat)
 case atStart=>exact⟨0,Nat.zero_le _,rfl,HRW.out,RK.out⟩
 case round=>
  obtain⟨i,hi1,rfl,hrr,hk⟩:=hrel;clear HRW RK;by_cases hin:i<n
  ·obtain⟨u,u1,u2⟩:=hrr.cell hin;have HRW:=hid (hrr.set i (fV 4619567317775286272));have RK:=hid (hk.grown (db wr g i (fV 4619567317775286272)));clear hrr hk;gi_wp2_with fail;go_roundw
   case rel=>exact⟨i+1,by omega,by go_num,HRW.out,RK.out⟩
   case measure=>simp[intOf];omega
  ·clear hrr;have HK:=hid hk;clear hk;gi_wp2_with fail;have hk:=HK.out
   have HST:Hid (SeqStopsK Fence.wide (5-1) Tryz.prog 104 #[.pointer (some ⟨b1,0,none⟩),.pointer (some ⟨b2,0,none⟩),.pointer (some ⟨b3,0,none⟩)] sI (fB wr.heap.size) (fun ys=>ys=L) (fun pre=>pre<+:L) L.length wr):=by
    have:=AR A (pc:=qc) wr (HS.out.below hk.hb ae) hk.flv HP.out HRT.out dn HDN.out al ah HIV.out b1 b2 b3 (5-1) hk.k1 hk.k2 hk.k3;rw[←HLL.out] at this;exact this
   have bO:Boxed ((wr.alloc (.cells #[.slice none 0 0] 41)).alloc (.cells #[.slice none 0 0] 41)) wr.heap.size 41 (.slice none 0 0):=(Boxed.new wr _ _).alloc _
   have bN:Boxed ((wr.alloc (.cells #[.slice none 0 0] 41)).alloc (.cells #[.slice none 0 0] 41)) (wr.heap.size+1) 41 (.slice none 0 0):=by
    have:=Boxed.new (wr.alloc (.cells #[.slice none 0 0] 41)) 41 (.slice none 0 0);rwa [World.size_alloc] at this
   have hB0:Below wr.heap.size wr ((wr.alloc (.cells #[.slice none 0 0] 41)).alloc (.cells #[.slice none 0 0] 41)):=aJ.alloc (by simp) _;have hsz:((wr.alloc (.cells #[.slice none 0 0] 41)).alloc (.cells #[.slice none 0 0] 41)).heap.size=wr.heap.size+1+1:=by simp
   have HKS:Hid (Boxed wr (w.heap.size+1) 3 (iV stop)):=hk.ks;have HKB:Hid (Below w.heap.size w wr):=hk.hb;clear hk HK HS HP HRT HDN HIV HLL;generalize((wr.alloc (.cells #[.slice none 0 0] 41)).alloc (.cells #[.slice none 0 0] 41))=W0 at*
   refine rg (n:=5) (by decide) (gf:=104) (lb:=#[.pointer (some ⟨b1,0,none⟩),.pointer (some ⟨b2,0,none⟩),.pointer (some ⟨b3,0,none⟩)]) rfl (enters_of Tryz.func104 (by kernel_rfl) rfl) HST.out fB.trans (fB.put (by omega)) hB0 rfl
    (fun pre W=>(∃v,Boxed W wr.heap.size 41 v∧W.ownsRow wr.heap.size 33 2 v pre.length (bvs pre)∧True)∧Boxed W (wr.heap.size+1) 41 (.slice none 0 0)∧Below wr.heap.size wr W)
    (fun _ _ _=>False)
    (OwnFrom.and (Own.from (holdsRow_own wr.heap.size wr.heap.size 41 33 2 (fun pre=>pre.length) (fun pre=>bvs pre) (fun _ _=>True)) _) (OwnFrom.and (Own.from (boxed_own (wr.heap.size+1) 41 (fun _=>.slice none 0 0)) _) (ownFrom_below ae (by omega))))
    (fun _ _ _ _ _ hs _ _=>hs)
    ⟨⟨_,bO,World.ownsRow_nil _ _ _ _,trivial⟩,bN,hB0⟩
    (fun pre W o hi=>⟨bU.of_below ((Below.refl _ W).alloc ae o),(Below.refl _ W).alloc hi.2.2.size o⟩)
    49 19 67 ?assign ?body ?done ?stop
   case assign=>
    intro l x W K hK;simp only[sI];gi_wp2;exact hK
   case body=>
    rintro l pre x Bx W ⟨⟨v,hv,hrow,-⟩,hv2,hB⟩ hBx hlt;have hlt2:pre.length<256:=Nat.lt_of_lt_of_le hlt hlen.out;have hc:=hv.cell;obtain⟨x0,x1,-,-⟩:=aj hBx;gi_wp2_with fail;have hmx:Tryz.prog.follows .mixedOrders=true:=by kernel_rfl
    have hvd:Boxed W.drew wr.heap.size 41 v:=hv;have hrd:W.drew.ownsRow wr.heap.size 33 2 v pre.length (bvs pre):=hrow;have TT:∀W',CallsIn (Fence.wide.inRound l) 2 Tryz.prog 50 #[gF x.1 x.2] W' fun e w'=>e= .returned (gU x.1 x.2)∧Below W'.heap.size W' w':=fun W'=>CallsIn.inRound l (callsIn_wide.2 (HBX.out _ _ W'))
    refine wpIn_region_any hmx ?_
    try(change wpAnyIn _ _ _ _ _ _ _ _ _ (World.drew _))
    refine wpAnyIn_ready (rs:=[0,1]) (by kernel_rfl) (by simp) ?_;refine AllReadyIn.cons rfl (fun K hK=>?_) (AllReadyIn.cons rfl (fun K hK=>?_) AllReadyIn.nil);go_simp;refine hK _ _ ?_;clear hK K;refine wpAnyIn_ready (rs:=[1]) (by kernel_rfl) (by simp) ?_;refine AllReadyIn.cons rfl (fun K hK=>?_) AllReadyIn.nil;go_simp;refine hK _ _ ?_;clear hK K;refine wpAnyIn_ready (rs:=[2]) (by kernel_rfl) (by simp) ?_;refine AllReadyIn.cons rfl (fun K hK=>?_) AllReadyIn.nil;go_simp;refine⟨trivial,?_⟩;refine(TT _).mono ?_;rintro e w' ⟨rfl,hbb⟩;have hbW:Below W.heap.size W w':=((Below.refl W.heap.size W).drew).trans hbb;have hvw:Boxed w' (wr.heap.size) 41 v:=aa hv hbW;have hrw:w'.ownsRow (wr.heap.size) 33 2 v pre.length (bvs pre):=aH hrow hbW ae;have hc':=hvw.cell;refine hK _ _ ?_;clear hK K;refine wpAnyIn_ready (rs:=[3]) (by kernel_rfl) (by simp) ?_;refine AllReadyIn.cons rfl (fun K hK=>?_) AllReadyIn.nil;go_simp;refine hK _ _ ?_;clear hK K;rotate_left;go_simp;refine hK _ _ ?_;clear hK K;refine wpAnyIn_ready (rs:=[0,2]) (by kernel_rfl) (by simp) ?_;refine AllReadyIn.cons rfl (fun K hK=>?_) (AllReadyIn.cons rfl (fun K hK=>?_) AllReadyIn.nil);go_simp;refine hK _ _ ?_;clear hK K;refine wpAnyIn_ready (rs:=[2]) (by kernel_rfl) (by simp) ?_;refine AllReadyIn.cons rfl (fun K hK=>?_) AllReadyIn.nil;go_simp;refine⟨trivial,?_⟩;refine(TT _).mono ?_;rintro e w' ⟨rfl,hbb⟩;have hbW:Below W.heap.size W w':=((Below.refl W.heap.size W).drew).trans hbb;have hvw:Boxed w' (wr.heap.size) 41 v:=aa hv hbW;have hrw:w'.ownsRow (wr.heap.size) 33 2 v pre.length (bvs pre):=aH hrow hbW ae;have hc':=hvw.cell;refine hK _ _ ?_;clear hK K;refine wpAnyIn_ready (rs:=[3]) (by kernel_rfl) (by simp) ?_;refine AllReadyIn.cons rfl (fun K hK=>?_) AllReadyIn.nil;go_simp;refine hK _ _ ?_;clear hK K;rotate_left;go_simp;refine⟨trivial,?_⟩;refine(TT _).mono ?_;rintro e w' ⟨rfl,hbb⟩;have hbW:Below W.heap.size W w':=((Below.refl W.heap.size W).drew).trans hbb;have hvw:Boxed w' (wr.heap.size) 41 v:=aa hv hbW;have hrw:w'.ownsRow (wr.heap.size) 33 2 v pre.length (bvs pre):=aH hrow hbW ae;have hc':=hvw.cell;refine hK _ _ ?_;clear hK K;refine wpAnyIn_ready (rs:=[0,3]) (by kernel_rfl) (by simp) ?_;refine AllReadyIn.cons rfl (fun K hK=>?_) (AllReadyIn.cons rfl (fun K hK=>?_) AllReadyIn.nil);go_simp;refine hK _ _ ?_;clear hK K;refine wpAnyIn_ready (rs:=[3]) (by kernel_rfl) (by simp) ?_;refine AllReadyIn.cons rfl (fun K hK=>?_) AllReadyIn.nil;go_simp;refine hK _ _ ?_;clear hK K;rotate_left;have hc'':=(hvw.alloc (.cells #[nV x.1,nV x.2] 33)).cell;go_simp;refine hK _ _ ?_;clear hK K;refine wpAnyIn_ready (rs:=[0]) (by kernel_rfl) (by simp) ?_;refine AllReadyIn.cons rfl (fun K hK=>?_) AllReadyIn.nil;go_simp;refine hK _ _ ?_;clear hK K
    all_goals
     refine wpAnyIn_ready (rs:=[4]) (by kernel_rfl) (by simp) ?_;refine AllReadyIn.cons rfl (fun K hK=>?_) AllReadyIn.nil;rw[if_pos (by rfl)];refine nX _ _ _ 41 rfl (wr.heap.size) 33 i0 (.agg #[uV 0,uV 0]) 2 16 Tryz.underlying41 hi hz0 hz1 hz2 rfl (by decide) _ _ _ rfl (hrw.alloc _) ⟨w'.heap.size,0,none⟩ 1 1 [nV x.1,nV x.2] rfl rfl (oV _ _ _ _) (by simp[Value.oneCell']) (by unfold maxLen;omega) (by omega) (by have:=hB.size;have:=hbW.size;simp at*;omega) ?_;intro v' w1 hown' hgrow;obtain⟨g',cap',rfl⟩:=ownsRow_succ hown';have hsz':wr.heap.size≤w'.heap.size:=Nat.le_trans hB.size hbW.size;obtain⟨hv1,hv2',hr2,hk2,hb2⟩:=hvw.appended (by decide) hrw hsz' ae hown' hgrow;have hc1:=hv1.cell;have hf1:=hv1.frozen;have hbx:=vZ hrw hgrow (aa hv2 hbW) (show wr.heap.size+1≠wr.heap.size by omega) (v':= .slice (some ⟨g',0,none⟩) (pre.length+1) cap');have hkc:=uk (v':= .slice (some ⟨g',0,none⟩) (pre.length+1) cap') hvw hrw hgrow;have hc2:=hv2'.cell;refine hK _ _ ?_;clear hK K hown' hgrow hv1 hvw hrw;refine wpAnyIn_ready (rs:=[5]) (by kernel_rfl) (by simp) ?_;refine AllReadyIn.cons rfl (fun K hK=>?_) AllReadyIn.nil;go_simp;refine hK _ _ ?_;clear hK K;refine wpAnyIn_done (by kernel_rfl) ?_ _;gi_wp2;exact⟨((KeepsOthers.of_grownBy (mb hbW) (fun j o ej _=>by cases ej)).trans hk2).from _,⟨(bU.of_below hbW).trans hkc,(hbW.mono hB.size).trans hb2⟩,⟨_,hv2',by rw[List.length_append,jz];exact hr2,trivial⟩,hbx,hB.trans ((hbW.mono hB.size).trans hb2)⟩
   case done=>
    rintro D ys WA hD rfl ⟨⟨vA,hvA,hrowA,-⟩,hv2A,hBA⟩ hKA;gi_wp2_with fail
    have hg1:∀g,vA.ownBlock=some g→g<WA.heap.size:=by
     intro g hg;rcases hrowA.2 with⟨rfl,_⟩|⟨g',cap,cur,rfl,_,hgb,_⟩
     ·simp[Value.ownBlock] at hg
     ·obtain rfl:g'=g:=by simpa[Value.ownBlock] using hg
      exact ag hgb
    have hDl:D<WA.heap.size:=ag hKA;have hWs:wr.heap.size+1+1≤WA.heap.size:=by have:=ag hv2A;omega
    refine rg (n:=5) (by decide) (gf:=104) (lb:=#[.pointer (some ⟨b1,0,none⟩),.pointer (some ⟨b2,0,none⟩),.pointer (some ⟨b3,0,none⟩)]) rfl (enters_of Tryz.func104 (by kernel_rfl) rfl) HST.out fB.trans (fB.put (by omega)) hBA rfl
     (fun pre W'=>((∃u,Boxed W' (wr.heap.size+1) 41 u∧W'.ownsRow WA.heap.size 33 2 u pre.length (bvs pre)∧True)∧Boxed W' wr.heap.size 41 vA∧W'.ownsRow wr.heap.size 33 2 vA ys.length (bvs ys)∧W'.heap[D]?=some (.deferred (some []))∧Below wr.heap.size wr W'∧WA.heap.size≤W'.heap.size)∧(∀k:Nat,1≤k→k≤pre.length→(k:Int)≠stop))
     (fun c pre W'=>((∃u,Boxed W' (wr.heap.size+1) 41 u∧W'.ownsRow WA.heap.size 33 2 u pre.length (bvs pre)∧True)∧Boxed W' wr.heap.size 41 vA∧W'.ownsRow wr.heap.size 33 2 vA ys.length (bvs ys)∧W'.heap[D]?=some (.deferred (some []))∧Below wr.heap.size wr W'∧WA.heap.size≤W'.heap.size)∧c= .exit 4∧(pre.length:Int)=stop∧1≤pre.length)
     (OwnFrom.and (OwnFrom.and (Own.from (holdsRow_own WA.heap.size (wr.heap.size+1) 41 33 2 (fun pre=>pre.length) (fun pre=>bvs pre) (fun _ _=>True)) _) (OwnFrom.and (Own.from (boxed_own wr.heap.size 41 (fun _=>vA)) _) (OwnFrom.and (Own.from (yO wr.heap.size 33 2 vA ys.length (bvs ys)) _) (OwnFrom.and (vT hDl) (OwnFrom.and (ownFrom_below ae (by omega)) (fun _ _ _ _ h hg _=>Nat.le_trans h hg.size)))))) (fun _ _ _ _ h _ _=>h))
     (fun c=>OwnFrom.and (OwnFrom.and (Own.from (holdsRow_own WA.heap.size (wr.heap.size+1) 41 33 2 (fun pre=>pre.length) (fun pre=>bvs pre) (fun _ _=>True)) _) (OwnFrom.and (Own.from (boxed_own wr.heap.size 41 (fun _=>vA)) _) (OwnFrom.and (Own.from (yO wr.heap.size 33 2 vA ys.length (bvs ys)) _) (OwnFrom.and (vT hDl) (OwnFrom.and (ownFrom_below ae (by omega)) (fun _ _ _ _ h hg _=>Nat.le_trans h hg.size)))))) (fun _ _ _ _ h _ _=>h))
     ⟨⟨⟨_,hv2A,World.ownsRow_nil _ _ _ _,trivial⟩,hvA,hrowA,hKA,hBA,Nat.le_refl _⟩,fun k h1 h2=>by simp at h2;omega⟩
     (fun pre W' o hi=>⟨bU.of_below ((Below.refl _ W').alloc ae o),(Below.refl _ W').alloc hi.1.2.2.2.2.1.size o⟩)
     59 20 67 ?assign2 ?body2 ?done2 ?stop2
    case assign2=>
     intro l x W K hK;simp only[sI];gi_wp2;exact hK
    case body2=>
     rintro l pre x Bx W ⟨⟨⟨v,hv,hrow,-⟩,hv2,hr0,hDk,hB,hWs2⟩,hne⟩ hBx hlt;have hlt2:pre.length<256:=Nat.lt_of_lt_of_le hlt hlen.out;have hc:=hv.cell;obtain⟨x0,x1,-,-⟩:=aj hBx;gi_wp2_with fail;have hmx:Tryz.prog.follows .mixedOrders=true:=by kernel_rfl
     have TT:∀W',CallsIn (Fence.wide.inRound l) 2 Tryz.prog 50 #[gF x.1 x.2] W' fun e w'=>e= .returned (gU x.1 x.2)∧Below W'.heap.size W' w':=fun W'=>CallsIn.inRound l (callsIn_wide.2 (HBX.out _ _ W'))
     refine wpIn_region_any hmx ?_
     try(change wpAnyIn _ _ _ _ _ _ _ _ _ (World.drew _))
     refine wpAnyIn_ready (rs:=[0,1]) (by kernel_rfl) (by simp) ?_;refine AllReadyIn.cons rfl (fun K hK=>?_) (AllReadyIn.cons rfl (fun K hK=>?_) AllReadyIn.nil);go_simp;refine hK _ _ ?_;clear hK K;refine wpAnyIn_ready (rs:=[1]) (by kernel_rfl) (by simp) ?_;refine AllReadyIn.cons rfl (fun K hK=>?_) AllReadyIn.nil;go_simp;refine hK _ _ ?_;clear hK K;refine wpAnyIn_ready (rs:=[2]) (by kernel_rfl) (by simp) ?_;refine AllReadyIn.cons rfl (fun K hK=>?_) AllReadyIn.nil;go_simp;refine⟨trivial,?_⟩;refine(TT _).mono ?_;rintro e w' ⟨rfl,hbb⟩;have hbW:Below W.heap.size W w':=((Below.refl W.heap.size W).drew).trans hbb;have hvw:Boxed w' (wr.heap.size+1) 41 v:=aa hv hbW;have hrw:w'.ownsRow (WA.heap.size) 33 2 v pre.length (bvs pre):=aH hrow hbW ae;have hc':=hvw.cell;refine hK _ _ ?_;clear hK K;refine wpAnyIn_ready (rs:=[3]) (by kernel_rfl) (by simp) ?_;refine AllReadyIn.cons rfl (fun K hK=>?_) AllReadyIn.nil;go_simp;refine hK _ _ ?_;clear hK K;rotate_left;go_simp;refine hK _ _ ?_;clear hK K;refine wpAnyIn_ready (rs:=[0,2]) (by kernel_rfl) (by simp) ?_;refine AllReadyIn.cons rfl (fun K hK=>?_) (AllReadyIn.cons rfl (fun K hK=>?_) AllReadyIn.nil);go_simp;refine hK _ _ ?_;clear hK K;refine wpAnyIn_ready (rs:=[2]) (by kernel_rfl) (by simp) ?_;refine AllReadyIn.cons rfl (fun K hK=>?_) AllReadyIn.nil;go_simp;refine⟨trivial,?_⟩;refine(TT _).mono ?_;rintro e w' ⟨rfl,hbb⟩;have hbW:Below W.heap.size W w':=((Below.refl W.heap.size W).drew).trans hbb;have hvw:Boxed w' (wr.heap.size+1) 41 v:=aa hv hbW;have hrw:w'.ownsRow (WA.heap.size) 33 2 v pre.length (bvs pre):=aH hrow hbW ae;have hc':=hvw.cell;refine hK _ _ ?_;clear hK K;refine wpAnyIn_ready (rs:=[3]) (by kernel_rfl) (by simp) ?_;refine AllReadyIn.cons rfl (fun K hK=>?_) AllReadyIn.nil;go_simp;refine hK _ _ ?_;clear hK K;rotate_left;go_simp;refine⟨trivial,?_⟩;refine(TT _).mono ?_;rintro e w' ⟨rfl,hbb⟩;have hbW:Below W.heap.size W w':=((Below.refl W.heap.size W).drew).trans hbb;have hvw:Boxed w' (wr.heap.size+1) 41 v:=aa hv hbW;have hrw:w'.ownsRow (WA.heap.size) 33 2 v pre.length (bvs pre):=aH hrow hbW ae;have hc':=hvw.cell;refine hK _ _ ?_;clear hK K;refine wpAnyIn_ready (rs:=[0,3]) (by kernel_rfl) (by simp) ?_;refine AllReadyIn.cons rfl (fun K hK=>?_) (AllReadyIn.cons rfl (fun K hK=>?_) AllReadyIn.nil);go_simp;refine hK _ _ ?_;clear hK K;refine wpAnyIn_ready (rs:=[3]) (by kernel_rfl) (by simp) ?_;refine AllReadyIn.cons rfl (fun K hK=>?_) AllReadyIn.nil;go_simp;refine hK _ _ ?_;clear hK K;rotate_left;have hc'':=(hvw.alloc (.cells #[nV x.1,nV x.2] 33)).cell;go_simp;refine hK _ _ ?_;clear hK K;refine wpAnyIn_ready (rs:=[0]) (by kernel_rfl) (by simp) ?_;refine AllReadyIn.cons rfl (fun K hK=>?_) AllReadyIn.nil;go_simp;refine hK _ _ ?_;clear hK K
     all_goals
      refine wpAnyIn_ready (rs:=[4]) (by kernel_rfl) (by simp) ?_;refine AllReadyIn.cons rfl (fun K hK=>?_) AllReadyIn.nil;rw[if_pos (by rfl)];refine nX _ _ _ 41 rfl (WA.heap.size) 33 i0 (.agg #[uV 0,uV 0]) 2 16 Tryz.underlying41 hi hz0 hz1 hz2 rfl (by decide) _ _ _ rfl (hrw.alloc _) ⟨w'.heap.size,0,none⟩ 1 1 [nV x.1,nV x.2] rfl rfl (oV _ _ _ _) (by simp[Value.oneCell']) (by unfold maxLen;omega) (by omega) (by have:=hB.size;have:=hbW.size;simp at*;omega) ?_;intro v' w1 hown' hgrow;obtain⟨g',cap',rfl⟩:=ownsRow_succ hown';obtain⟨hv1,hv2',-,hk2,hb2⟩:=hvw.appended (by decide) (aH hrw aK (show wr.heap.size≤WA.heap.size by omega)) (show wr.heap.size≤w'.heap.size by have:=hbW.size;omega) (Nat.le_succ _) (aH hown' aK (show wr.heap.size≤WA.heap.size by omega)) hgrow;have hr2:(w1.setCell ⟨wr.heap.size+1,0,none⟩ (.slice (some ⟨g',0,none⟩) (pre.length+1) cap')).ownsRow WA.heap.size 33 2 (.slice (some ⟨g',0,none⟩) (pre.length+1) cap') (pre.length+1) (bvs pre++[nV x.1,nV x.2]):=hown'.kept (grownBy_setCell' w1 _ _) (.inr (hv1.not_row (by decide) hown').symm);have hc1:=hv1.cell;have hf1:=hv1.frozen;have hbx:=vZ hrw hgrow (aa hv2 hbW) (show wr.heap.size≠wr.heap.size+1 by omega) (v':= .slice (some ⟨g',0,none⟩) (pre.length+1) cap');have hra:=DE hvw hrw hgrow (aH hr0 hbW ae) hg1 (v':= .slice (some ⟨g',0,none⟩) (pre.length+1) cap');have hkc:=uk (v':= .slice (some ⟨g',0,none⟩) (pre.length+1) cap') hvw hrw hgrow;have hDd:=hk2.2 D _ (aa hDk hbW) rfl;have hB3:=hB.trans ((hbW.mono hB.size).trans hb2);have hks':Boxed (w1.setCell ⟨wr.heap.size+1,0,none⟩ (.slice (some ⟨g',0,none⟩) (pre.length+1) cap')) (w.heap.size+1) 3 (iV stop):=aa HKS.out hB3;have hks:=hks'.cell;have hsz3:WA.heap.size≤(w1.setCell ⟨wr.heap.size+1,0,none⟩ (.slice (some ⟨g',0,none⟩) (pre.length+1) cap')).heap.size:=Nat.le_trans hWs2 (Nat.le_trans hbW.size hb2.size);have hkf:=((KeepsOthers.of_grownBy (mb hbW) (fun j o ej _=>by cases ej)).trans hk2).from WA.heap.size;have hkb:fB wr.heap.size W _:=⟨(bU.of_below hbW).trans hkc,(hbW.mono hB.size).trans hb2⟩;have hrow2:(w1.setCell ⟨wr.heap.size+1,0,none⟩ (.slice (some ⟨g',0,none⟩) (pre.length+1) cap')).ownsRow WA.heap.size 33 2 (.slice (some ⟨g',0,none⟩) (pre.length+1) cap') (pre++[x]).length (bvs (pre++[x])):=by rw[List.length_append,jz];exact hr2
      have hlx:(pre++[x]).length=pre.length+1:=by simp
      have hc2:=hv2'.cell;refine hK _ _ ?_;clear hK K hown' hgrow hv1 hvw hrw;refine wpAnyIn_ready (rs:=[5]) (by kernel_rfl) (by simp) ?_;refine AllReadyIn.cons rfl (fun K hK=>?_) AllReadyIn.nil;go_simp;refine hK _ _ ?_;clear hK K;refine wpAnyIn_done (by kernel_rfl) ?_ _;gi_wp2
      all_goals first
       |(exfalso;rename_i ha hb;simp only[beq_iff_eq] at hb;omega)
       |exact⟨hkf,⟨⟨_,hv2',hrow2,trivial⟩,hbx,hra,hDd,hB3,hsz3⟩,rfl,(show((pre++[x]).length:Int)=stop by rw[hlx];omega),(by rw[hlx];omega)⟩
       |exact⟨hkf,hkb,⟨⟨_,hv2',hrow2,trivial⟩,hbx,hra,hDd,hB3,hsz3⟩,fun k h1 h2=>by
         rw[hlx] at h2;rcases(show k≤pre.length∨k=pre.length+1 by omega) with h|h
         ·exact hne k h1 h
         ·omega⟩
    case done2=>
     rintro D2 xs W hD2 rfl ⟨⟨⟨v,hv,hrow,-⟩,hv2,hr0,hDk,hB,hWs2⟩,hne⟩ hK2;have hc:=hv.cell;have hc2:=hv2.cell;have hT:dr xs stop=xs:=BM hne;have hmx:Tryz.prog.follows .mixedOrders=true:=by kernel_rfl
     gi_wp2
     gi_region
     gi_wp2;have hK2':W.drew.heap[D2]?=some (.deferred (some [])):=hK2;have hDD:D≠D2:=by omega
     have hD3:(W.drew.putObj D2 (.deferred none)).heap[D]?=some (.deferred (some [])):=((grownBy_putObj' W.drew D2 (.deferred none)).block D (ag hDk) (fun e=>hDD (by cases e;rfl))).trans hDk;refine⟨by simp,.inl ⟨_,_,rfl,run_takeDeferred hK2',?_⟩⟩;refine⟨by simp,.inl ⟨_,_,rfl,run_takeDeferred hD3,?_⟩⟩;have hr0d:W.drew.ownsRow wr.heap.size 33 2 vA _ _:=hr0;have hrd:W.drew.ownsRow WA.heap.size 33 2 v _ _:=hrow;exact⟨.tuple #[vA,v,iV 0],by simp[results,Tryz.results23,go_sem],vA,v,rfl,aH (ownsRow_putObj (ownsRow_putObj hr0d _ hK2' rfl) _ hD3 rfl) aK HKB.out.size,by rw[hT];exact aH (ownsRow_putObj (ownsRow_putObj hrd _ hK2' rfl) _ hD3 rfl) aK (by have:=HKB.out.size;omega),(HKB.out.trans (hB.mono HKB.out.size)).drew.trans ((belowK_b (w:=wr) HKB.out.size W.drew D2 _ _ (by omega) hK2' rfl rfl).trans (belowK_b (w:=wr) HKB.out.size _ D _ _ (by omega) hD3 rfl rfl))⟩
    case stop2=>
     rintro D2 c pre W hD2 hpre ⟨⟨⟨v,hv,hrow,-⟩,hv2,hr0,hDk,hB,hWs2⟩,rfl,hst,hst1⟩ hK2;have hc:=hv.cell;have hc2:=hv2.cell;have hT:dr ys stop=pre:=CL hpre hst hst1;have hmx:Tryz.prog.follows .mixedOrders=true:=by kernel_rfl
     gi_wp2
     gi_region
     gi_wp2;have hK2':W.drew.heap[D2]?=some (.deferred (some [])):=hK2;have hDD:D≠D2:=by omega
     have hD3:(W.drew.putObj D2 (.deferred none)).heap[D]?=some (.deferred (some [])):=((grownBy_putObj' W.drew D2 (.deferred none)).block D (ag hDk) (fun e=>hDD (by cases e;rfl))).trans hDk;refine⟨by simp,.inl ⟨_,_,rfl,run_takeDeferred hK2',?_⟩⟩;refine⟨by simp,.inl ⟨_,_,rfl,run_takeDeferred hD3,?_⟩⟩;have hr0d:W.drew.ownsRow wr.heap.size 33 2 vA _ _:=hr0;have hrd:W.drew.ownsRow WA.heap.size 33 2 v _ _:=hrow;exact⟨.tuple #[vA,v,iV 0],by simp[results,Tryz.results23,go_sem],vA,v,rfl,aH (ownsRow_putObj (ownsRow_putObj hr0d _ hK2' rfl) _ hD3 rfl) aK HKB.out.size,by rw[hT];exact aH (ownsRow_putObj (ownsRow_putObj hrd _ hK2' rfl) _ hD3 rfl) aK (by have:=HKB.out.size;omega),(HKB.out.trans (hB.mono HKB.out.size)).drew.trans ((belowK_b (w:=wr) HKB.out.size W.drew D2 _ _ (by omega) hK2' rfl rfl).trans (belowK_b (w:=wr) HKB.out.size _ D _ _ (by omega) hD3 rfl rfl))⟩
   case stop=>
    rintro D c pre W _ _ h _;exact h.elim
end
section
open Go.RowKit Go.Shelf
theorem sV (A:Nat→Addr) (ao:Option Addr) (n c:Nat) (ps:Nat→Nat) (xl xh:Nat) (d stop:Int) (w:World) (hS:aE A w) (h:WdV w ao n ps) (hn:n*8≤140737488355328) (h1:xl<18446744073709551616) (h2:xh<18446744073709551616):
  ax 23 #[.slice ao n c,gU xl xh,iV d,iV stop] w fun e w'=>∃v1 v2,e= .returned (.tuple #[v1,v2,iV (rootsE ps n d:Int)])∧w'.ownsRow w.heap.size 33 2 v1 (df ps n d (makeN xl xh).1 (makeN xl xh).2.1).length (bvs (df ps n d (makeN xl xh).1 (makeN xl xh).2.1))∧w'.ownsRow w.heap.size 33 2 v2 (dr (df ps n d (makeN xl xh).1 (makeN xl xh).2.1) stop).length (bvs (dr (df ps n d (makeN xl xh).1 (makeN xl xh).2.1) stop))∧Below w.heap.size w w':=by
 have iv:=dZ xl xh h1 h2;have hf:∀W,Below w.heap.size w W→ax 52 #[.slice ao n c] W fun e w'=>∃bo bc,e= .returned (.slice bo n bc)∧w'.ownsRow W.heap.size 65 1 (.slice bo n bc) n (fvs ps n)∧Below W.heap.size W w':=fun W hb=>AX ao n c ps W (h.below hb) hn
 have hx:∀W,Below w.heap.size w W→aw 40 #[gU xl xh] W (.agg #[fV (makeN xl xh).1,fV (makeN xl xh).2.1]):=fun W hb=>gh A xl xh W h1 h2 (hS.below hb ae)
 have flv:∀W bo bc,W.ownsRow w.heap.size 65 1 (.slice bo n bc) n (fvs ps n)→FlV W bo n ps:=by
  intro W bo bc ho;obtain⟨bo',bc',e,hv⟩:=FlV.of_owns ho
  cases e
  exact hv
 by_cases h0:rootsE ps n d=0
 ·have hr:rightN ps n=0:=by
   apply Decidable.byContradiction;intro hc;unfold rootsE at h0;rw[if_pos hc] at h0;exact hc h0
  have hd:¬(d<0∨8<d):=by
   intro hc;unfold rootsE at h0;rw[if_neg (by rw[hr];simp),if_pos hc] at h0
   cases h0
  have hL:df ps n d (makeN xl xh).1 (makeN xl xh).2.1=be ps n d.toNat (makeN xl xh).1 (makeN xl xh).2.1:=by unfold df;rw[if_pos h0]
  have hdn:((d.toNat:Nat):Int)=d:=by omega
  have key:=q6 A ao n c xl xh (makeN xl xh).1 (makeN xl xh).2.1 ps d.toNat stop w hS hn h.1 hr (by omega) iv _ hL hf hx
   (fun W bo bc hb ho=>by
     refine(rE A bo n bc _ _ ps ((d.toNat:Nat):Int) W (hS.below hb ae) (flv W bo bc ho) h.1 hn).mono ?_;rintro e w' ⟨f,v,rfl,hE,hb',hor⟩;rw[hdn] at hE hor;rw[h0] at hE;rcases hor with⟨hc,_⟩|⟨_,b1,b2,b3,qo,qc,rfl,p1,p2,p3,k1,k2,k3,ho'⟩
     ·exact absurd h0 hc
     ·rw[hdn];exact⟨b1,b2,b3,qo,qc,by rw[hE.zero],p1,p2,p3,k1,k2,k3,ho',hb'⟩)
   (fun W hb=>jK A .nilIface 0 ⟨#[]⟩ W (hS.below hb ae) aR.nil)
  rw[hdn] at key;rw[h0];exact key
 ·have hL:df ps n d (makeN xl xh).1 (makeN xl xh).2.1=[]:=by unfold df;rw[if_neg h0]
  have hT:dr [] stop=[]:=by unfold dr;split<;>simp
  rw[hL,hT]
  refine(tm A ao n c xl xh (makeN xl xh).1 (makeN xl xh).2.1 (rootsE ps n d) d stop w (fvs ps n) hn hf hx
   (fun W bo bc hb ho=>by
     refine(rE A bo n bc _ _ ps d W (hS.below hb ae) (flv W bo bc ho) h.1 hn).mono ?_;rintro e w' ⟨f,v,rfl,hE,hb',hor⟩;rcases hor with⟨_,rfl⟩|⟨hc,_⟩
     ·exact⟨v,rfl,hE,hb'⟩
     ·exact absurd hc h0)
   (fun W v hb hE=>jK A v _ _ W (hS.below hb ae) hE)).mono ?_
  rintro e w' ⟨rfl,hb⟩;exact⟨_,_,rfl,World.ownsRow_nil _ _ _ _,World.ownsRow_nil _ _ _ _,hb⟩
end
section
open Go.RowKit
theorem LSt.cells6 {w W:World} {c0 c1 c2 c3 c4 c5 c6 c7 c8:Value} (m:LSt w W #[c0,c1,c2,c3,c4,c5,c6,c7,c8]):W.cell? ⟨w.heap.size,1,none⟩=some c1∧W.cell? ⟨w.heap.size,2,none⟩=some c2∧W.cell? ⟨w.heap.size,4,none⟩=some c4∧W.cell? ⟨w.heap.size,5,none⟩=some c5∧W.cell? ⟨w.heap.size,8,none⟩=some c8:=by
 obtain⟨-,k1,k2,-,k4,k5,-,-,k8⟩:=qH m.k0;exact⟨k1,k2,k4,k5,k8⟩
theorem x6 (A:Nat→Addr) (a b:Int) (s:ByteArray) (xl xh yl yh:Nat) (po:Option Addr) (n pc:Nat) (ps:Nat→Nat) (r3 k1 k2 j:Nat) (xs zs ys:Nat→Nat×Nat) (w:World) (hS:aE A w) (hw:WdV w po n ps) (hn:n*8≤140737488355328)
  (hp:∀W bo bc,aE A W→WdV W bo n ps→ax 23 #[.slice bo n bc,gU xl xh,iV a,iV b] W fun e w'=>∃a1 c1 a2 c2,e= .returned (.tuple #[.slice a1 k1 c1,.slice a2 k2 c2,iV (r3:Int)])∧BxV w' a1 k1 xs∧BxV w' a2 k2 zs∧Below W.heap.size W w')
  (hq:∀W bo bc,WdV W bo n ps→ax 37 #[.slice bo n bc,gU xl xh,iV a] W fun e w'=>∃a3 c3,e= .returned (.tuple #[.slice a3 j c3,iV (r3:Int)])∧j≤c3∧BxV w' a3 j ys∧Below W.heap.size W w')
  (hl1:∀W a1 c1 a3 c3,BxV W a1 k1 xs→BxV W a3 j ys→j≤c3→aw 38 #[.slice a1 k1 c1,.slice a3 j c3,iV 0] W (.bool true))
  (hl2:∀W a2 c2 a3 c3,BxV W a2 k2 zs→BxV W a3 j ys→j≤c3→aw 38 #[.slice a2 k2 c2,.slice a3 j c3,iV b] W (.bool true)):
  aw 18 #[.agg #[Value.int IntKind.i64 6,Value.int IntKind.i64 a,Value.int IntKind.i64 b,Value.string s,Value.int IntKind.u64 (xl:Int),Value.int IntKind.u64 (xh:Int),Value.int IntKind.u64 (yl:Int),Value.int IntKind.u64 (yh:Int),Value.slice po n pc]] w (.bool true):=by
 have HP:Hid (∀(W:World) (bo:Option Addr) (bc:Nat),Below w.heap.size w W→WdV W bo n ps→ax 23 #[.slice bo n bc,gU xl xh,iV a,iV b] W fun e w'=>∃a1 c1 a2 c2,e= .returned (.tuple #[.slice a1 k1 c1,.slice a2 k2 c2,iV (r3:Int)])∧BxV w' a1 k1 xs∧BxV w' a2 k2 zs∧Below W.heap.size W w'):=fun W bo bc hb h=>hp W bo bc (hS.below hb ae) h
 have HQ:Hid (∀W,Below w.heap.size w W→ax 37 #[.slice po n pc,gU xl xh,iV a] W fun e w'=>∃a3 c3,e= .returned (.tuple #[.slice a3 j c3,iV (r3:Int)])∧j≤c3∧BxV w' a3 j ys∧Below W.heap.size W w'):=fun W hb=>hq W po pc (hw.below hb)
 have H1:Hid (∀W,Below w.heap.size w W→ax 35 #[.slice po n pc] W fun e w'=>∃bo bc,e= .returned (.slice bo n bc)∧WdV w' bo n ps∧Below W.heap.size W w'):=fun W hb=>rH po n pc ps W (hw.below hb) hn
 have H2:Hid (∀W,aw 26 #[gU xl xh] W (gU xl xh)):=fun W=>eH _ _ W
 have HL1:=hid hl1;have HL2:=hid hl2;clear hp hq hS hw hn hl1 hl2;go_enter Tryz.func18,Tryz.ntmps18;go_wp2_with fail;have m1:Hid (LSt w (w.alloc (.cells #[iV 6,iV a,iV b,.string s,nV xl,nV xh,nV yl,nV yh,.slice po n pc] 31)) #[Value.int IntKind.i64 6,Value.int IntKind.i64 a,Value.int IntKind.i64 b,Value.string s,Value.int IntKind.u64 (xl:Int),Value.int IntKind.u64 (xh:Int),Value.int IntKind.u64 (yl:Int),Value.int IntKind.u64 (yh:Int),Value.slice po n pc]):=⟨af w _,aK.alloc ae _,by simp⟩;generalize(w.alloc (.cells #[iV 6,iV a,iV b,.string s,nV xl,nV xh,nV yl,nV yh,.slice po n pc] 31))=W2 at*
 go_cut [34,35,36] (fun s8 s9 s10 wc=>∃a1 c1 a2 c2,s8= .slice a1 k1 c1∧s9= .slice a2 k2 c2∧s10=iV (r3:Int)∧LSt w wc #[Value.int IntKind.i64 6,Value.int IntKind.i64 a,Value.int IntKind.i64 b,Value.string s,Value.int IntKind.u64 (xl:Int),Value.int IntKind.u64 (xh:Int),Value.int IntKind.u64 (yl:Int),Value.int IntKind.u64 (yh:Int),Value.slice po n pc]∧BxV wc a1 k1 xs∧BxV wc a2 k2 zs)
 case first=>
  have iN:=hid m1.out.drew
  go_region_held3 (fun W=>W.cell? ⟨w.heap.size,1,none⟩=some (.int .i64 a)∧W.cell? ⟨w.heap.size,2,none⟩=some (.int .i64 b)∧W.cell? ⟨w.heap.size,4,none⟩=some (.int .u64 (xl:Int))∧W.cell? ⟨w.heap.size,5,none⟩=some (.int .u64 (xh:Int))∧W.cell? ⟨w.heap.size,8,none⟩=some (.slice po n pc)) (first|with_reducible exact iN.out.cells6)
   (first
     |(go_at_call 35;with_reducible (refine (H1.out _ ?_).mono ?_);(with_reducible exact iN.out.hb);rintro e v0 ⟨bo,bc,rfl,hw,hbk⟩
       have NW:=hid hw;clear hw;have iN:=hid (iN.out.below hbk);clear hbk)
     |(go_at_call 26;with_reducible (refine (H2.out _).mono ?_);rintro e v1 ⟨rfl,hbk⟩
       have NW:=hid (NW.out.below hbk);have iN:=hid (iN.out.below hbk);clear hbk)
     |(go_at_call 26;with_reducible (refine (H2.out _).mono ?_);rintro e v1 ⟨rfl,hbk⟩
       have iN:=hid (iN.out.below hbk);clear hbk)
     |(go_at_call 23;with_reducible (refine (HP.out _ bo bc ?_ ?_).mono ?_);(with_reducible exact iN.out.hb);(exact NW.out);rintro e v2 ⟨a1,c1,a2,c2,rfl,hx1,hx2,hbk⟩
       have X1:=hid hx1;have X2:=hid hx2;clear hx1 hx2;have iN:=hid (iN.out.below hbk);clear hbk))
  all_goals(go_wp2_with fail;go_meet;exact⟨_,_,_,_,rfl,rfl,rfl,iN.out,X1.out,X2.out⟩)
 case rest=>
  clear HP H1 H2 m1;obtain⟨a1,c1,a2,c2,rfl,rfl,rfl,hL,hB1,hB2⟩:=hcut;have ML:=hid hL;have M1:=hid hB1;have M2:=hid hB2;obtain⟨q1,q2,q4,q5,q8⟩:=hL.cells6;clear hL hB1 hB2;go_wp2_with fail;refine (HQ.out _ ML.out.hb).mono ?_;rintro e w3 ⟨a3,c3,rfl,hj,hb3,hb4⟩;have ML:=hid (ML.out.below hb4);have M1:=hid (M1.out.below hb4);have M2:=hid (M2.out.below hb4);have M3:=hid hb3;have HJ:=hid hj;clear hb3 hb4 hj q1 q2 q4 q5 q8 HQ;go_wp2_with fail;refine (HL1.out _ _ _ _ _ M1.out M3.out HJ.out).mono ?_;rintro e w4 ⟨rfl,hb4⟩;have ML:=hid (ML.out.below hb4);have M2:=hid (M2.out.below hb4);have M3:=hid (M3.out.below hb4);obtain⟨q1,q2,q4,q5,q8⟩:=ML.out.cells6;clear hb4 HL1 M1;go_wp2_with fail;refine (HL2.out _ _ _ _ _ M2.out M3.out HJ.out).mono ?_;rintro e w5 ⟨rfl,hb5⟩;have hbD:Below w.heap.size w w5:=ML.out.hb.trans (hb5.mono ML.out.hb.size);clear ML hb5 q1 q2 q4 q5 q8 HL2 M2 M3;go_wp2
  go_ret
  exact⟨rfl,hbD⟩
theorem AA (L:List (Nat×Nat)) (b:Int) (h1:0<b) (h2:b<(L.length:Int)):((dr L b).length:Int)=b:=by
 unfold dr;rw[if_pos ⟨h1,h2⟩,List.length_take];omega
theorem AF (L:List (Nat×Nat)) (b:Int) (h:¬(0<b∧b<(L.length:Int))):(dr L b).length=L.length:=by
 unfold dr;rw[if_neg h]
theorem CX (L:List (Nat×Nat)) (b:Int) (i:Nat) (h:i<(dr L b).length):(dr L b).getD i (0,0)=L.getD i (0,0):=by
 unfold dr at h⊢;split
 ·rename_i hc
  rw[if_pos hc,List.length_take] at h;rw[List.getD_eq_getElem?_getD,List.getD_eq_getElem?_getD,List.getElem?_take,if_pos (by omega)]
 ·rfl
theorem oJ (A:Nat→Addr) (a b:Int) (s:ByteArray) (xl xh yl yh:Nat) (po:Option Addr) (n pc:Nat) (ps:Nat→Nat) (w:World) (hS:aE A w) (hw:WdV w po n ps) (hn:n*8≤140737488355328) (h1:xl<18446744073709551616) (h2:xh<18446744073709551616):
  aw 18 #[.agg #[Value.int IntKind.i64 6,Value.int IntKind.i64 a,Value.int IntKind.i64 b,Value.string s,Value.int IntKind.u64 (xl:Int),Value.int IntKind.u64 (xh:Int),Value.int IntKind.u64 (yl:Int),Value.int IntKind.u64 (yh:Int),Value.slice po n pc]] w (.bool true):=by
 have hlen:=A1 ps n a (makeN xl xh).1 (makeN xl xh).2.1;refine x6 A a b s xl xh yl yh po n pc ps (rootsE ps n a) (df ps n a (makeN xl xh).1 (makeN xl xh).2.1).length (dr (df ps n a (makeN xl xh).1 (makeN xl xh).2.1) b).length (df ps n a (makeN xl xh).1 (makeN xl xh).2.1).length (fun i=>(df ps n a (makeN xl xh).1 (makeN xl xh).2.1).getD i (0,0)) (fun i=>(dr (df ps n a (makeN xl xh).1 (makeN xl xh).2.1) b).getD i (0,0)) (fun i=>(df ps n a (makeN xl xh).1 (makeN xl xh).2.1).getD i (0,0)) w hS hw hn ?_ ?_ ?_ ?_
 ·intro W bo bc hS h;refine(sV A bo n bc ps xl xh a b W hS h hn h1 h2).mono ?_;rintro e w' ⟨v1,v2,rfl,o1,o2,hb⟩;obtain⟨a1,c1,rfl,-,x1⟩:=BxV.of_owns _ o1;obtain⟨a2,c2,rfl,-,x2⟩:=BxV.of_owns _ o2;exact⟨a1,c1,a2,c2,rfl,x1,x2,hb⟩
 ·intro W bo bc h;refine(xL bo n bc ps a xl xh _ _ W h hn h1 h2 rfl rfl _ rfl).mono ?_;rintro e w' ⟨v,rfl,o,-,hb⟩;obtain⟨a3,c3,rfl,hc,x⟩:=BxV.of_owns _ o;exact⟨a3,c3,rfl,hc,x,hb⟩
 ·intro W a1 c1 a3 c3 x y hc;exact mS a1 a3 _ _ c1 c3 _ _ 0 W x y hc (by omega) (fun h=>absurd h (by decide)) (fun _=>rfl) (fun i _=>rfl)
 ·intro W a2 c2 a3 c3 x y hc;exact mS a2 a3 _ _ c2 c3 _ _ b W x y hc (by omega) (fun h1 h2=>AA _ b h1 h2) (fun h=>AF _ b h) (fun i hi=>CX _ b i hi)
theorem He (A:Nat→Addr) (z:bW) (P:Nat→Nat→Nat) (ao:Option Addr) (n c:Nat) (w:World) (hn:n≤1466015503701) (hS:aE A w)
  (hz:n=0∨∃g off,ao=some ⟨g,off,none⟩∧g<w.heap.size∧z.at w g off n) (hx:∀i,i<n→z.xl i<18446744073709551616∧z.xh i<18446744073709551616) (hP:∀i,i<n→WdV w (z.po i) (z.pl i) (P i)∧z.pl i*8≤140737488355328):
  aw 9 #[.slice ao n c] w (.bool true):=by
 have HU:=lW A z ao n c 6 6 w hn hS hz (fun i hi h1 h2 W hb hW=>by
  have hk:z.k i=6:=by omega
  unfold bW.val;rw[hk];obtain⟨x1,x2⟩:=hx i hi;obtain⟨p1,p2⟩:=hP i hi;exact oJ A (z.a i) (z.b i) _ (z.xl i) (z.xh i) _ _ _ _ _ (P i) W hW (p1.below hb) p2 x1 x2)
 clear hz hx hS hn hP;have HU:=hid HU;go_enter Tryz.func9,Tryz.ntmps9;go_wp2_with fail;refine Calls.mono HU.out ?_;rintro e w1 ⟨rfl,hb1⟩;clear HU;go_wp2
 go_ret
 exact⟨rfl,hb1⟩
end
end Go.Proofs.YtonhpkigoplmaaaGreatDoor
