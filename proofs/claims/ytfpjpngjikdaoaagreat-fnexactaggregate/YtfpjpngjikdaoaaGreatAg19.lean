import Derived.Test.YtfpjpngjikdaoaaGreatAg13
import Derived.Test.YtfpjpngjikdaoaaGreatAg18
import Derived.Deep.Light
import Derived.Test.YtfpjpngjikdaoaaGreatAg17
set_option maxHeartbeats 40000000
set_option maxRecDepth 1000000
set_option linter.defProp false
open List Go.World
open List renaming length->E,getD->U
open Array renaming size->J
open Go.World renaming alloc->S,setCell->sW,cell?->eQ,ownsRow->oW
open Go.Value renaming slice->Z,agg->aQ
open Go.Obj renaming cells->eZ
open Go.Ending renaming returned->rE
open Option renaming some->Q,none->wH
open Go renaming World->oX,Value->oV,step_append_lies->sX
open Bool renaming false->nF
namespace Go.Proofs.YtfpjpngjikdaoaaGreat
open Go.Proofs.Tryz Go.RowKit Meet
abbrev FrB(w:oX)(vb:oV)(W:oX):Prop:=∀k,k<J w.1->vb.ownBlock≠Q k->W.1[k]?=w.1[k]?
def IS.fr{w v l}(h:IS w v l){vb W W'}(K:Bl w W)(V:∀g,vb.ownBlock=Q g->J w.1<=g)(hF:FrB W vb W'):IS W' v l:=by
 obtain⟨a,k,e,h1⟩:=h;refine⟨a,k,e,h1.imp id ?_⟩;rintro⟨b,o,e1,M⟩;refine⟨b,o,e1,λj O=>?_⟩;have I:b<J w.1:=bL w _ (M j O);have hb:=K.size;exact(bF ((hF b Oo λe2=>O1 (V b e2)).trans (K.block b I))).trans (M j O)
def ZJ{w0}w{vb vt v0 v1 v2 v3}x y{rl tl}nb nw{ps hs}(hw:Bl w0 w)(h:ITs w0 vt tl)(hl:E tl<=7)(g6:∀t∈tl,qW t)(h3:∃a c,v0=Z a nb c)(h4:∃a c,v3=Z a nw c)(e5:∀W,FrB w vb W->IS W v1 ps)(e6:∀W,FrB w vb W->IS W v2 hs)(i6:E ps<=12)(i7:E hs<=12)(hT:TBs w (J w0.1) vb rl)(i8:E rl<=12):
 Cl 70 #[vb,vt,aQ #[v0,v1,v2,v3,ai x,ai y]] w λe w'=>∃(q0:OA) (m0 z0:Nat) (q1:OA) (m1 z1:Nat) (q2:OA) (m2 z2:Nat),e=rE (aQ #[Z q0 m0 z0,Z q1 m1 z1,Z q2 m2 z2])/\TreE w0 w vb rl tl ps hs w' (Z q0 m0 z0) (Z q1 m1 z1) (Z q2 m2 z2):=by
 obtain⟨iT,hj,e7,e8,e9⟩:=aX Tryz.infoTb;obtain⟨i0,hi,g7,g8,g9⟩:=aX Tryz.infoInt;have i5:Tryz.prog.follows .mixedOrders:=Kl;have KT:Hh (∀A W,Bl w A->Bl A W->Cl 90 #[vt] W λe w'=>∃(q0:OA) (m0 z0:Nat) (q1:OA) (m1 z1:Nat) (q2:OA) (m2 z2:Nat) (us:LV),e=rE (aQ #[Z q0 m0 z0,Z q1 m1 z1,Z q2 m2 z2])/\TWr w' (J A.1) ⟨Z q0 m0 z0,Z q1 m1 z1,Z q2 m2 z2,us,[],yt tl,zJ (E (yt tl))⟩/\Bl W w'/\Bl A w'):=ay λA W hA hW=>by
  refine(UQ W (h.zz (bt hw (bt hA hW))) hl g6).mono ?_;rintro e w' ⟨x0,x1,x2,us,rfl,hT,hb'⟩;obtain⟨q0,z0,e0⟩:=qG hT.o0;obtain⟨q1,z1,e1⟩:=qG hT.rq.z;obtain⟨q2,z2,e2⟩:=qG hT.o2;subst e0 e1 e2;exact⟨_,_,_,_,_,_,_,_,_,us,rfl,TW.zx hT hW.size,hb',bt hW hb'⟩
 have h5:Hh (∀A W,FrB w vb A->Bl A W->Cl 91 #[v1,ai (E rl:Int)] W λe w'=>∃(q0:OA) (z0:Nat),e=rE (Z q0 (E ps) z0)/\oW w' (J A.1) 3 1 (Z q0 (E ps) z0) (E ps) ((orT (E rl) ps).map ai)/\Bl A w'/\Bl W w'):=ay λA W hA hW=>by
  apply (Xy W (E rl) ((e5 A hA).zz hW) Oo).mono;rintro e w' ⟨v,rfl,ho,hb'⟩;obtain⟨q0,z0,e0⟩:=qG ho;subst e0;exact⟨_,_,rfl,qE ho hW.size,bt hW hb',hb'⟩
 have h6:Hh (∀A W,FrB w vb A->Bl A W->Cl 91 #[v2,ai (E rl:Int)] W λe w'=>∃(q0:OA) (z0:Nat),e=rE (Z q0 (E hs) z0)/\oW w' (J A.1) 3 1 (Z q0 (E hs) z0) (E hs) ((orT (E rl) hs).map ai)/\Bl A w'/\Bl W w'):=ay λA W hA hW=>by
  apply (Xy W (E rl) ((e6 A hA).zz hW) Oo).mono;rintro e w' ⟨v,rfl,ho,hb'⟩;obtain⟨q0,z0,e0⟩:=qG ho;subst e0;exact⟨_,_,rfl,qE ho hW.size,bt hW hb',hb'⟩
 have h7:Hh (ZA tl=⟨[],yt tl,zJ (E (yt tl))⟩):=ay rfl;generalize zJ (E (yt tl))=ON at *;generalize yt tl=TR at *;obtain⟨a0,k0,rfl⟩:=h3;obtain⟨a1,k1,e1,-⟩:=e5 w λ_ _ _=>rfl;obtain⟨a2,k2,e2,-⟩:=e6 w λ_ _ _=>rfl;clear e5 e6;subst e1 e2;obtain⟨a3,k3,rfl⟩:=h4;obtain⟨ab,kb,rfl⟩:=qG hT.z;obtain⟨W1,d2⟩:=Ex (S (S w (eZ #[Z a0 nb k0,Z a1 (E ps) k1,Z a2 (E hs) k2,Z a3 nw k3,ai x,ai y] 39)) (eZ #[sn,sn,sn] 97));have d1:Hh (Bl w W1):=ay (by rw[d2];exact x8 (x8 (bJ _ _) _) _);have d3:Hh (PX 39 W1 (J w.1) (Z a0 nb k0) (Z a1 (E ps) k1) (Z a2 (E hs) k2) (Z a3 nw k3) x y):=ay (by rw[d2];exact(PX.zw _ _ _ _ _ _ _ _).zz (x8 (bJ _ _) _));have f7:Hh (Bx3 97 W1 (J w.1+1) sn sn sn):=ay (by
  have h1:=Bx3.zw 97 (S w (eZ #[Z a0 nb k0,Z a1 (E ps) k1,Z a2 (E hs) k2,Z a3 nw k3,ai x,ai y] 39)) sn sn sn;rw[d2];rw[aM]at h1;exact h1)
 have d7:Hh (TBs W1 (J w0.1) (Z ab (E rl) kb) rl):=ay (hT.zz d1);have d8:Hh (Bl w0 W1):=ay (bt hw d1);have h8:Hh (∀W,Bl W1 W->eQ W (az (J w.1) 1)=Q (Z a1 (E ps) k1)/\eQ W (az (J w.1) 2)=Q (Z a2 (E hs) k2)):=ay λW hW=>⟨(d3.o.zz hW).six.2.1,(d3.o.zz hW).six.2.2.1⟩;have hs1:J w0.1<=J W1.1:=d8.o.size;have h9:J w0.1<=J w.1+1:=O1 hw.size
 obtain⟨i9,j0,rfl,-⟩:=h;have f8:∀(W:oX) (j:Nat) (u:oV),eQ W (az (J w.1) 1)=Q (Z a1 (E ps) k1)/\eQ W (az (J w.1) 2)=Q (Z a2 (E hs) k2)->eQ (sW W (az (J w.1+1) j) u) (az (J w.1) 1)=Q (Z a1 (E ps) k1)/\eQ (sW W (az (J w.1+1) j) u) (az (J w.1) 2)=Q (Z a2 (E hs) k2):=λW j u hW=>by
  rw[bC _ _ _ _ Ss,bC _ _ _ _ Ss];exact hW
 clear hT hw g6;generalize E tl=nt at *;go_enter func70,ntmps70;go_upto_region 2 with fail;rw[<-d2];clear d2
 first|go_region_held_law (λW=>eQ W (az (J w.1) 1)=Q (Z a1 (E ps) k1)/\eQ W (az (J w.1) 2)=Q (Z a2 (E hs) k2))
  (first|refine h8.o _ ?_;(repeat(with_reducible first|exact bJ _ _|exact O|refine qT ?_|refine qC ?_ _));done|refine a5 _ ?_;(repeat(with_reducible first|exact bJ _ _|exact K|exact V|exact M|refine qT ?_|refine qC ?_ _));done|refine f8 _ _ _ ?_;(first|refine f8 _ _ _ ?_;(first|refine f8 _ _ _ ?_;refine a5 _ ?_;(repeat(with_reducible first|exact bJ _ _|exact K|exact V|exact M|refine qT ?_|refine qC ?_ _));done|refine a5 _ ?_;(repeat(with_reducible first|exact bJ _ _|exact K|exact V|exact M|refine qT ?_|refine qC ?_ _));done)|refine a5 _ ?_;(repeat(with_reducible first|exact bJ _ _|exact K|exact V|exact M|refine qT ?_|refine qC ?_ _));done))
  (first
   |(refine sX _ Fl _ _ _ Fl _ 58 _ _ 3 _ underlying34 hj e7 e8 e9 rfl Dd _ _ _ Fl (b1.alloc _) _ 1 1 _ Fl Fl (uT _ _ _ _ _) (λu hu=>by simp at hu;rcases hu with rfl|rfl|rfl <;> rfl) Dd Um Oo (by have:=O.size;simp;omega) _ rfl ?_;intro g14 f9 a6 a4 I d4 d5;have a7:=qBH d7 d8 d1 d3 f7 O d6 I a4;have a5:∀W,Bl a6 W->eQ W (az (J w.1) 1)=Q (Z a1 (E ps) k1)/\eQ W (az (J w.1) 2)=Q (Z a2 (E hs) k2):=λW hW=>⟨(a7.px.zz hW).six.2.1,(a7.px.zz hW).six.2.2.1⟩;(try have b9:=(d9.zz (qC (bJ _ _) _)).gr (b1.alloc _) Dd I))
   |(refine sX _ Fl _ _ _ Fl (J w0.1) 58 iT (aQ #[sn,sn,sn]) 3 72 underlying34 hj e7 e8 e9 rfl Dd (Z ab (E rl) kb) (E rl) _ Fl ((b1.alloc _).alloc _) (az (b8.1.size+1) 0) 1 1 [Z q0 m0 z0,Z q1 m1 z1,Z q2 m2 z2] Fl Fl (qC0 (X:=b8.alloc (eZ #[ai (E rl:Int)] 3)) Ss (bJ _ _)) (λu hu=>by simp at hu;rcases hu with rfl|rfl|rfl <;> rfl) Dd Um Oo (by have:=O.size;simp;omega) _ rfl ?_;intro g14 f9 a6 a4 I d4 d5;have a7:=qBH d7 d8 d1 d3 f7 (qC O _) (TW.zz d6 (qC (bJ _ _) _)) I a4;have a5:∀W,Bl a6 W->eQ W (az (J w.1) 1)=Q (Z a1 (E ps) k1)/\eQ W (az (J w.1) 2)=Q (Z a2 (E hs) k2):=λW hW=>⟨(a7.px.zz hW).six.2.1,(a7.px.zz hW).six.2.2.1⟩;have b9:=((Bx1.zw 3 _ (ai (E rl)) rfl).zz (qC (bJ _ _) _)).gr ((b1.alloc _).alloc _) Dd I)
   |(refine sX _ Fl _ _ _ Fl (J w0.1) 58 iT (aQ #[sn,sn,sn]) 3 72 underlying34 hj e7 e8 e9 rfl Dd (Z ab (E rl) kb) (E rl) _ Fl ((b1.alloc _).alloc _) (az b8.1.size 0) 1 1 [Z q0 m0 z0,Z q1 m1 z1,Z q2 m2 z2] Fl Fl (qC0 (X:=b8) rfl (qC (bJ _ _) _)) (λu hu=>by simp at hu;rcases hu with rfl|rfl|rfl <;> rfl) Dd Um Oo (by have:=O.size;simp;omega) _ rfl ?_;intro g14 f9 a6 a4 I d4 d5;have a7:=qBH d7 d8 d1 d3 f7 (qC O _) (TW.zz d6 (qC (bJ _ _) _)) I a4;have a5:∀W,Bl a6 W->eQ W (az (J w.1) 1)=Q (Z a1 (E ps) k1)/\eQ W (az (J w.1) 2)=Q (Z a2 (E hs) k2):=λW hW=>⟨(a7.px.zz hW).six.2.1,(a7.px.zz hW).six.2.2.1⟩;have b9:=(Bx1.zw (k:=b8.1.size+1) 3 (b8.alloc (eZ _ 58)) (ai (E rl)) Ss).gr ((b1.alloc _).alloc _) Dd I)
   |(refine sX _ Fl _ _ _ Fl _ 3 _ _ 1 8 underlying24 hi g7 g8 g9 rfl Dd _ _ _ Fl c7 _ 1 1 _ Fl Fl c8.news Hu Dd Um Oo (by have:=M.size;simp;omega) _ rfl ?_;intro g21 h0 i3 a8 a9 g4 g5;have V:=grB (by(repeat(with_reducible first|exact bJ _ _|exact K|exact V|exact M|refine qT ?_|refine qC ?_ _))) c7 a9)
   |(refine sX _ Fl _ _ _ Fl _ 3 _ _ 1 8 underlying24 hi g7 g8 g9 rfl Dd _ _ _ Fl (c7.alloc _) _ 1 1 [ai (E rl)] Fl Fl (qH _ _ _) Hu Dd Um Oo (by have:=M.size;simp;omega) _ rfl ?_;intro g21 h0 i3 a8 a9 g4 g5;have V:=grB (by(repeat(with_reducible first|exact bJ _ _|exact K|exact V|exact M|refine qT ?_|refine qC ?_ _))) (c7.alloc _) a9)
   |(go_simp;go_at_call 90;(with_reducible refine(KT.o _ _ d1.o (by(repeat(with_reducible first|exact bJ _ _|exact O|refine qT ?_|refine qC ?_ _)))).mono ?_);rintro e b8 ⟨q0,m0,z0,q1,m1,z1,q2,m2,z2,us,rfl,d6,e3,O⟩;have b1:=qB d7.o.z O;(first|have d9:=(Bx1.zw 3 _ (ai (E rl)) rfl).zz (Qb e3)|have d9:=(Bx1.zw 3 W1 (ai (E rl:Int)) rfl).zz e3|skip))
   |(go_simp;go_at_call 91;have _hk:=a8;(with_reducible refine(h6.o _ _ a7.fr (by(repeat(with_reducible first|exact bJ _ _|exact K|exact V|exact M|refine qT ?_|refine qC ?_ _)))).mono ?_);rintro e j1 ⟨q5,z5,rfl,h2,K,e4⟩;(first|have c9:=qB a8 e4|have c9:=qB a8 (Qb e4));have b7:=a7.bx.zz K;have t0:=b7.c0;have t1:=b7.c1;have t2:=b7.c2;have f0:=b7.L 0;have f1:=b7.L 1;have f2:=b7.L 2)
   |(go_simp;go_at_call 91;(with_reducible refine(h5.o _ _ a7.fr (by(repeat(with_reducible first|exact bJ _ _|exact K|exact V|exact M|refine qT ?_|refine qC ?_ _)))).mono ?_);rintro e i4 ⟨q8,z8,rfl,c7,M,d0⟩;(first|have c8:=b9.zz d0|have c8:=b9.zz (Qb d0)|have c8:=(Bx1.zw 3 _ (ai (E rl)) rfl).zz d0|have c8:=(Bx1.zw 3 a6 (ai (E rl:Int)) rfl).zz (Qb d0)|skip))
   |fail)|fail
 all_goals go_wp2_with fail
 all_goals refine bodyPost_ret (v:=aQ #[sZ g14 0 (E rl+1) f9,sZ g21 0 (E ps+1) h0,Z q5 (E hs) z5]) (by simp[results,results70,go_sem,t0,t1,t2]) rfl ?_
 all_goals exact⟨_,_,_,_,_,_,_,_,_,rfl,qH8 a7 h7 K c9 h2 h9 ⟨Oo,nR _⟩⟩
open Go.Maps
def At(W:oX)(i:Nat)(o:Obj):Prop:=W.1[i]?=Q o
def At.new{w:oX}{c:Array oV}{t:TypeId}{i:Nat}(h:i=J w.1):At (S w (eZ c t)) i (eZ c t (0,0)):=h▸eO
def At.newM{w:oX}{i:Nat}(h:i=J w.1):At (S w (.map #[] 0)) i (.map #[] 0):=h▸eO
def At.lt{W:oX}{i:Nat}{o:Obj}(h:At W i o):i<J W.1:=(dK.1 h).1
def At.O{W W':oX}{i:Nat}{o:Obj}(h:At W i o)(hb:Bl W W'):At W' i o:=(hb.block i h.lt).trans h
def At.al{W:oX}{i:Nat}{o:Obj}(h:At W i o)(o':Obj):At (S W o') i o:=h.O (aK)
def At.dr{W:oX}{i:Nat}{o:Obj}(h:At W i o):At W.drew i o:=h
def qHd{W:oX}{B be:Nat}(h:At W be (.map #[] 0)):En W B be (λ_ _=>wH) [] (.map []):=by
 obtain⟨w0,hs⟩:∃w0:oX,J w0.1=be:=⟨{ W with heap:=W.1.extract 0 be },by have:=h.lt;simp;omega⟩;have h1:=En.zv (B:=B) w0;have h2:(S w0 (.map #[] 0)).1[J w0.1]?=Q (.map #[] 0):=eO;rw[hs]at h1 h2;exact h1.A (Eq.trans h h2.symm) (λe he=>by cases he)
abbrev msZ:Obj:=eZ #[.nilIface,sn,sn,.map wH] 149 (0,0)
def At.msg{W:oX}{p:Nat}(h:At W p msZ):eQ W (az p 0)=Q .nilIface/\eQ W (az p 1)=Q sn/\eQ W (az p 2)=Q sn/\eQ W (az p 3)=Q (.map wH)/\W.frozen? (az p 0)=nF/\W.frozen? (az p 1)=nF/\W.frozen? (az p 2)=nF/\W.frozen? (az p 3)=false:=by
 unfold At at h;refine⟨?_,?_,?_,?_,?_,?_,?_,?_⟩;rw[eI h];rfl;rw[eI h];rfl;rw[eI h];rfl;rw[eI h];rfl;all_goals(unfold World.frozen?;rw[h];simp)
def At.msgA{W:oX}{p:Nat}(h:At W p msZ):(∀o,eQ (S W o) (az p 0)=Q .nilIface)/\(∀o,eQ (S W o) (az p 1)=Q sn)/\(∀o,eQ (S W o) (az p 2)=Q sn)/\(∀o,eQ (S W o) (az p 3)=Q (.map wH))/\(∀o,(S W o).frozen? (az p 0)=nF)/\(∀o,(S W o).frozen? (az p 1)=nF)/\(∀o,(S W o).frozen? (az p 2)=nF)/\∀o,(S W o).frozen? (az p 3)=false:=
 ⟨λo=>(h.al o).msg.1,λo=>(h.al o).msg.2.1,λo=>(h.al o).msg.2.2.1,λo=>(h.al o).msg.2.2.2.1,λo=>(h.al o).msg.2.2.2.2.1,λo=>(h.al o).msg.2.2.2.2.2.1,λo=>(h.al o).msg.2.2.2.2.2.2.1,λo=>(h.al o).msg.2.2.2.2.2.2.2⟩
def qI4{w1 w2 X:oX}{B1 n1 n2:Nat}{v1 v2:oV}{xs ys:List oV}(h1:oW w1 B1 3 1 v1 n1 xs)(h2:oW w2 (J X.1) 3 1 v2 n2 ys)(hb:Bl w1 X):ApW v1 v2:=λg e1 e2=>by
 have:=(h1.lt g e1).2;have:=(h2.lt g e2).1;have:=hb.size;omega
structure Mm(r:Nat)(W5 W:oX)(pm be:Nat)(s1 s2:oV)(sh ow:LI):Prop where
 O:Bl W5 W
 pm5:J W5.1<=pm
 be5:J W5.1<=be
 mb:MgB r W pm be s1 s2
 o1:oW W (J W5.1) 3 1 s1 (E sh) (sh.map ai)
 o2:oW W (J W5.1) 3 1 s2 (E ow) (ow.map ai)
 ap:ApW s1 s2
 en:∀B,En W B be (λ_ _=>wH) [] (.map [])
def qAK{r:Nat}{W5 W:oX}{pm be:Nat}{s1 s2:oV}{sh ow:LI}(hb:Bl W5 W)(hp:MgB r W pm be s1 s2)(hm:At W be (.map #[] 0))(p5:J W5.1<=pm)(b5:J W5.1<=be)(o1:oW W (J W5.1) 3 1 s1 (E sh) (sh.map ai))(o2:oW W (J W5.1) 3 1 s2 (E ow) (ow.map ai))(ap:ApW s1 s2):Mm r W5 W pm be s1 s2 sh ow:=⟨hb,p5,b5,hp,o1,o2,ap,λ_=>qHd hm⟩
def set4{r:Nat}{W5 Y:oX}{pm be:Nat}{s1 s2:oV}(hb:Bl W5 Y)(hp:At Y pm msZ)(p5:J W5.1<=pm):Bl W5 (sW (sW (sW (sW Y (az pm 0) (.iface (rgT r) (aQ #[]))) (az pm 1) s1) (az pm 2) s2) (az pm 3) (.map (Q be)))/\MgB r (sW (sW (sW (sW Y (az pm 0) (.iface (rgT r) (aQ #[]))) (az pm 1) s1) (az pm 2) s2) (az pm 3) (.map (Q be))) pm be s1 s2/\(∀{x:oV} {n:Nat} {xs:List oV},oW Y (J W5.1) 3 1 x n xs->oW (sW (sW (sW (sW Y (az pm 0) (.iface (rgT r) (aQ #[]))) (az pm 1) s1) (az pm 2) s2) (az pm 3) (.map (Q be))) (J W5.1) 3 1 x n xs)/\∀k,k≠pm->(sW (sW (sW (sW Y (az pm 0) (.iface (rgT r) (aQ #[]))) (az pm 1) s1) (az pm 2) s2) (az pm 3) (.map (Q be))).1[k]?=Y.1[k]?:=by
 have hk:∀k,k≠pm->(sW (sW (sW (sC Y pm 0 (.iface (rgT r) (aQ #[]))) (az pm 1) s1) (az pm 2) s2) (az pm 3) (.map (Q be))).1[k]?=Y.1[k]?:=λk hk=>
  (eG hk).trans ((eG hk).trans ((eG hk).trans (eG hk)))
 have a3:∃cur,Y.1[pm]?=Q (eZ cur 149 (0,0)):=⟨_,hp⟩;refine⟨⟨hb.os,hb.tape,hb.output,by simp;exact hb.size,λk h=>(hk k Oo).trans (hb.block k h)⟩,?_,λ{x n xs} o1=>qD o1 λg hg=>hk g λe=>Xq o1 a3 Dd (e▸hg.symm),hk⟩;unfold At at hp;have e3:=bI _ _ 3 _ _ (.map (Q be)) (bI _ _ 2 _ _ s2 (bI _ _ 1 _ _ s1 (bI _ _ 0 _ _ (.iface (rgT r) (aQ #[])) hp)));unfold MgB;rw[e3];rfl
section
variable {r:Nat} {W5 Y:oX} {pm be:Nat} {s1 s2:oV} {sh ow:LI}
def mmA(hb:Bl W5 Y)(hp:At Y pm msZ)(hm:At Y be (.map #[] 0))(p5:J W5.1<=pm)(b5:J W5.1<=be)(o1:oW Y (J W5.1) 3 1 s1 (E sh) (sh.map ai))(o2:oW Y (J W5.1) 3 1 s2 (E ow) (ow.map ai))(ap:ApW s1 s2):Mm r W5 (sW (sW (sW (sW Y (az pm 0) (.iface (rgT r) (aQ #[]))) (az pm 1) s1) (az pm 2) s2) (az pm 3) (.map (Q be))) pm be s1 s2 sh ow:=by
 have⟨h1,h2,h3,h4⟩:=set4 (r:=r) (be:=be) (s1:=s1) (s2:=s2) hb hp p5;refine qAK h1 h2 ((h4 _ λe=>?_).trans hm) p5 b5 (h3 o1) (h3 o2) ap;unfold At at hp hm;rw[e,hp]at hm;cases hm
def mmC(hb:Bl W5 Y)(hp:pm=J Y.1)(hm:At Y be (.map #[] 0))(b5:J W5.1<=be)(o1:oW Y (J W5.1) 3 1 s1 (E sh) (sh.map ai))(o2:oW Y (J W5.1) 3 1 s2 (E ow) (ow.map ai))(ap:ApW s1 s2):Mm r W5 (S Y (eZ #[.iface (rgT r) (aQ #[]),s1,s2,.map (Q be)] 149)) pm be s1 s2 sh ow:=by
 subst hp;exact qAK (qC hb _) eO (hm.al _) hb.size b5 (o1.alloc _) (o2.alloc _) ap
def mmD(hb:Bl W5 Y)(hp:pm=J Y.1)(hm:be=J Y.1+1)(o1:oW Y (J W5.1) 3 1 s1 (E sh) (sh.map ai))(o2:oW Y (J W5.1) 3 1 s2 (E ow) (ow.map ai))(ap:ApW s1 s2):Mm r W5 (S (S Y (eZ #[.iface (rgT r) (aQ #[]),s1,s2,.map (Q be)] 149)) (.map #[] 0)) pm be s1 s2 sh ow:=by
 subst hp;exact qAK (qC (qC hb _) _) (MgB.A (W:=aJ Y #[.iface _ _,s1,s2,.map (Q be)] _) eO (heap_alloc_old _ _ (h:=Ss))) (At.newM (by rw[hm];simp)) hb.size (O1 hb.size) ((o1.alloc _).alloc _) ((o2.alloc _).alloc _) ap
end
def RgS.low{w0 W:oX}{lo a3:Nat}{n:List TbV}{v:oV}(h:RgS w0 W lo v n)(hl:a3<=lo):RgS w0 W a3 v n:=by
 have⟨a,cap,e,h1⟩:=h;refine⟨a,cap,e,h1.imp id ?_⟩;rintro⟨b,o,e1,h2,h3⟩;refine⟨b,o,e1,bM hl h2,λj hj=>?_⟩;have⟨aa,na,ca,m,g1,g2,g3,g4,g5⟩:=h3 j hj;exact⟨aa,na,ca,m,g1,g2,g3,bM hl g4,g5⟩
def qFp{ps:LI}{i:Int}{es:List Mg}{e:Mg}(h:e∈yN ps i es (E es)):e∈es:=by
 obtain⟨j,hj,rfl⟩:=cC.1 h;exact qz (cJ.1 (cK.1 hj).1)
def SgQ(pm be:Nat)(s2:oV)(k:Nat):Prop:=k=pm∨k=be∨s2.ownBlock=Q k
section
variable {r:Nat} {W5 W6 W W8:oX} {pm be:Nat} {s1 s2:oV} {sh ow:LI}
def Mm.not(h:Mm r W5 W6 pm be s1 s2 sh ow){g:Nat}(hg:s1.ownBlock=Q g):¬SgQ pm be s2 g:=by
 rintro (e|e|e);exact xn h.o1 h.mb (e▸hg.symm);exact QM h.o1 (h.en 0).map (e▸hg.symm);exact h.ap g hg e
def Mm.inS(h:Mm r W5 W6 pm be s1 s2 sh ow):∀k,SgQ pm be s2 k->J W5.1<=k/\k<J W6.1:=by
 rintro k (rfl|rfl|e);exact⟨h.pm5,h.mb.cells.2.2.2.2.2⟩;exact⟨h.be5,(h.en 0).map.lt⟩;exact h.o2.lt k e
def Mm.ga(h:Mm r W5 W6 pm be s1 s2 sh ow)(hW:Bl W6 W){v0 v1 v2 vr vb:oV}{t:TbV}{ts:List TbV}{cs:List Ch}(hT:IT W5 v0 v1 v2 t.e t.x t.k)(a3:qW t)(a4:Wf t.x)(hr:RgS W5 W (J W6.1) vr ts)(hn:E ts<=1000)(a5:∀t∈ts,(∀y∈t.e,0<=y/\y<6)/\E t.e<=1000)(hm:MsS r W5 W (J W6.1) vb cs)(hc:E cs<=20)(a6:E sh<=1000/\∀y∈sh,0<=y/\y<6):
 Ga r W5 W (SgQ pm be s2) (J W5.1) (J W6.1) pm be v0 v1 v2 vr vb s1 s2 t.e t.x t.k ts cs sh ow/\Gs r W W (SgQ pm be s2) (J W5.1) pm be s1 s2 s2 ow [] (λ_ _=>wH) [] (.map []):=by
 have o1:=qB h.o1 hW;have o2:=qB h.o2 hW;refine⟨⟨bt h.O hW,⟨eA,hW.size⟩,h.inS,.inl rfl,.inr (.inl rfl),λg hg=>.inr (.inr hg),hT,a3,a4,hr,hn,a5,hm,hc,λW' hK=>qN (qD o1 λg hg=>hK.block g (o1.lt g hg).2 (h.not hg)),a6⟩,⟨Kg.refl _ _,h.mb.A (hW.block _ h.mb.cells.2.2.2.2.2),⟨by rw[dU];exact o2,qN o2,λg hg=>.inl (.inr (.inr hg)),?_⟩,(h.en (J W.1)).O hW⟩⟩;rcases o2.2 with ⟨e,hn⟩|⟨g,cap,cur,e,-⟩;exact .inl ⟨e,dV.1 hn⟩;refine .inr ⟨g,cap,e,(o2.lt g (by rw[e];rfl)).2,λe2=>xn h.o2 h.mb (by rw[e,<-e2];rfl)⟩
def Mm.sent(h:Mm r W5 W6 pm be s1 s2 sh ow)(hW:Bl W6 W){v:oV}{L:LI}{iQ:LI->LI->Option Int}{es:List (LI×Nat)}{D:DataW Unit}{B:Nat}{c:Ch}(g:Gs r W W8 (SgQ pm be s2) (J W5.1) pm be s1 s2 v ow L iQ es D)(hB:B<=J W5.1)(a4:c.sh=sh)(a5:c.hd=ow++L)(hQ:∀s a,c.iQ s a=iQ s a)(hl:(E c.sh<=1000/\E c.hd<=1000)/\(∀y∈c.sh,0<=y/\y<6)/\∀y∈c.hd,0<=y/\y<6):
 Bl W5 W8/\Fz B (λX=>ChA X s1 v be c) W8:=by
 have o1:=qB h.o1 hW;have a3:=qD o1 λq hq=>g.kg.block q (o1.lt q hq).2 (h.not hq);have ho:=g.hd.z;rw[<-a5]at ho;rw[<-a4]at a3;refine⟨g.kg.zz (bt h.O hW) (by have:=h.O.size;have:=hW.size;omega) λk hk=>(h.inS k hk).1,qI0 a3 ho (g.en.V hQ) hB hB ?_ (bM hB h.be5) hl.1 hl.2.1 hl.2.2⟩;have:=h.O.size;have:=hW.size;omega
end
def z6:LI:=[0,0,0,0,0,0]
def MsE(c:Ch)(w w':oX)(v:oV):Prop:=((v=.map wH/\∀a,c.iQ z6 a=wH)∨∃b ks D,v=.map (Q b)/\mQ w' b ks D (c.iQ z6))/\Bl w w'
def V6{r:Nat}(hr:X4 r)(w:oX)(x0 x1 x2 vt vh:oV)(a5 tl:List TbV)(ps hl hd:LI)(ch:Nat->Ch)(fnd:Nat->Nat->LI->LI->Option Int)(wt:LI->TbV->Int)(hb:ITs w x0 a5)(hp:IS w x1 ps)(hh:IS w x2 hl)(ht:ITs w vt tl)(l6:IS w vh hd)(H:MsH r a5 ps hd hl tl ch fnd wt)(q7:0<E a5)(hlen:E hl=E tl)(l7:E tl<=1000)(l8:∀t∈tl,qW t)(m6:∀t∈tl,Wf t.x)(m7:E hd<=1000):
 Cl 73 #[aQ #[x0,x1,x2],vt,vh,rgV r] w λe w'=>∃v,e=rE v/\MsE (ch (E a5-1)) w w' v:=by
 obtain⟨iM,hi,m8,m9,n4⟩:=aX Tryz.infoMg;have t8:Tryz.prog.follows .mixedOrders:=Kl;have v6:=@run_makeMap Tryz.prog;have HH:=ay H;have HT:=ay hb;have i9:=ay hp;have q8:=ay hh;have q9:=ay ht;have r4:=ay l6;have n5:=ay l8;have r5:=ay m6;obtain⟨a0,k0,rfl,-⟩:=hb;obtain⟨a1,k1,rfl,-⟩:=hp;obtain⟨a2,k2,rfl,-⟩:=hh;obtain⟨a3,k3,rfl,-⟩:=ht;obtain⟨a4,k4,rfl,-⟩:=l6;have n6:=H.few;have d7:=H.C;clear H l8 m6;obtain⟨n,hn⟩:=Ex (E a5);have HN:=ay hn;rw[<-hn]at q7 n6 d7 HT;rw[d7]at i9;have n7:=ay hlen;have g5:=ay d7;have n8:=ay l7;have r6:=ay m7;rw[d7];clear d7 hlen l7 m7;generalize hl':E hl=nh at *;have r7:=ay hl';clear hl';generalize ht':E tl=nt at *;have d4:=ay ht';clear ht';obtain⟨W1,g6⟩:=Ex (S w (eZ #[Z a0 n k0,Z a1 n k1,Z a2 nh k2] 97));have j0:Hh (Bx3 97 W1 (J w.1) (Z a0 n k0) (Z a1 n k1) (Z a2 nh k2)):=ay (by rw[g6];exact⟨dZ _ _⟩);have n9:Hh (Bl w W1):=ay (by rw[g6];exact(bJ _ _).alloc (nR _) _);rw[<-hn];clear hn;go_enter func73,ntmps73;go_upto_region 1 with fail;rw[<-g6];clear g6;have t0:=j0.o.c0;go_upto_region 2 with (at_make;refine nJ _ rfl _ _ 145 rfl (J W1.1) 149 iM (aQ #[.nilIface,sn,sn,.map wH]) 4 underlying145 hi m8 m9 _ _ _ n rfl rfl rfl ?b2 ?b3 (nR _) ?_)
 case b2=>rw[n4];omega
 case b3=>unfold maxLen;omega
 intro w0 d8 c8;have g7:Hh (Bl W1 w0/\Snt r (J W1.1) w0 (sZ (J W1.1) 0 0 n) []):=ay ⟨(bJ _ _).grown c8 (nR _) (λj hj=>by cases hj),⟨d8,λe he=>by cases he⟩⟩;clear d8 c8 t0;have t0:=(j0.o.zz g7.o.1).c0;go_wp2_with fail;clear t0;go_loopw [9,21] (λu t wr=>∃(i:Nat) (vs:oV),i<=n/\t=ai i/\vs=u/\Hh (∃es:List Mg,E es=i/\(∀j,j<i->(U es j zZ).ch=ch j)/\Snt r (J W1.1) wr vs es/\Bl W1 wr)) (λ_ t _=>n-(intOf t).toNat);exact⟨0,_,nZ _,rfl,rfl,ay ⟨[],rfl,λj hj=>Oo,g7.o.2,g7.o.1⟩⟩;clear g7;obtain⟨i,vs,v7,rfl,rfl,HE⟩:=hrel;obtain⟨es,j1,o3,o4,o5⟩:=HE.o;have c7:=ay j1;have j2:=ay o3;have d9:=ay o4;have d5:=ay o5;clear HE j1 o3 o4 o5;by_cases o6:i<n
 ·have i1:(i:Int)<n:=Oo;have b7:i<E a5:=by rw[<-HN.o];exact o6
  have g8:Hh (Bl w wr):=ay (bt n9.o d5.o);obtain⟨q,o7,j3,o8⟩:=HH.o.par i b7;obtain⟨v8,v9,e0,e4⟩:=HT.o.zz g8.o;rw[<-HN.o]at e0;simp only[vI]at e0;obtain⟨rfl,-,rfl⟩:=e0;rcases e4 with h0|⟨b,o,rfl,e4⟩;omega;obtain⟨v0,v1,v2,d0,d1,d2,e6⟩:=e4 i b7;obtain⟨u0,u1,u2,g0,-,-,j4⟩:=e4 q j3;rw[<-HN.o]at j3;have i2:(q:Int)<n:=Oo;obtain⟨y0,z0,rfl,-⟩:=id e6.e;obtain⟨y1,z1,rfl,-⟩:=id e6.x;obtain⟨y2,z2,rfl,-⟩:=id e6.k;obtain⟨y3,z3,rfl,-⟩:=id j4.e;obtain⟨w5,w7,e1,g9⟩:=i9.o.zz g8.o;rw[g5.o]at e1;simp only[vI]at e1;obtain⟨rfl,-,rfl⟩:=e1;rcases g9 with h0|⟨bp,op,rfl,g9⟩;have:=g5.o;omega;have h4:=g9 i (by rw[g5.o];exact o6);rw[o7]at h4;have j5:=ay e6;have r8:=ay j4.e;have h7:=ay o8;clear e6 j4 o7 o8 g9 e4;have HM:Hh (((ch i).hd=shr (U a5 i qA).e hd++hds (zg ps ch i) (E (zg ps ch i)))/\(qW (U a5 i qA)/\Wf (U a5 i qA).x)/\(∀s a,(ch i).iQ s a=bl r (U a5 i qA).e (ch i).sh (U a5 i qA).x (fnd i (E (zg ps ch i))) (E (U a5 i qA).x) s a)/\((E (ch i).sh<=1000/\E (ch i).hd<=1000)/\(∀y∈(ch i).sh,0<=y/\y<6)/\∀y∈(ch i).hd,0<=y/\y<6)/\(E (shr (U a5 i qA).e hd)<=1000/\∀y∈shr (U a5 i qA).e hd,0<=y/\y<6)):=ay ⟨HH.o.hed i b7,HH.o.ok i b7,HH.o.q i b7,HH.o.ls i b7,HH.o.ow b7⟩;have o9:Hh (∀(j6 W:oX) (sS:Nat->Prop) (lo k5 pm be:Nat) (vr vb vsh vo:oV) (D0:DataW Unit),Ga r j6 W sS lo k5 pm be (Z y0 (E (U a5 i qA).e) z0) (Z y1 (E (U a5 i qA).x) z1) (Z y2 (E (U a5 i qA).k) z2) vr vb vsh vo (U a5 i qA).e (U a5 i qA).x (U a5 i qA).k (cN hl tl (i:Int) nt) (zg ps ch i) (ch i).sh (shr (U a5 i qA).e hd)->Gs r W W sS lo pm be vsh vo vo (shr (U a5 i qA).e hd) [] (λ_ _=>wH) [] D0->Cl 97 #[pZ pm 0,aQ #[Z y0 (E (U a5 i qA).e) z0,Z y1 (E (U a5 i qA).x) z1,Z y2 (E (U a5 i qA).k) z2],vr,vb] W λe w'=>e=rE (.tuple #[])/\∃v es,E es<=E (U a5 i qA).x/\∃D,Gs r W w' sS lo pm be vsh vo v (shr (U a5 i qA).e hd) (hds (zg ps ch i) (E (zg ps ch i))) (bl r (U a5 i qA).e (ch i).sh (U a5 i qA).x (fnd i (E (zg ps ch i))) (E (U a5 i qA).x)) es D):=ay λj6 W sS lo k5 pm be vr vb vsh vo D0 h1 h2=>qAE hr j6 W sS lo k5 pm be _ _ _ vr vb vsh vo _ _ _ _ _ _ _ D0 (fnd i) wt h1 h2 (HH.o.ow b7) (by rw[<-d4.o];exact HH.o.wts i b7) (by rw[<-d4.o];exact HH.o.f0 i b7) (HH.o.fj i b7) (HH.o.ky i b7) (HH.o.fn i b7) (HH.o.kid b7) (HH.o.tls i b7);have p1:Hh (E (cN hl tl (i:Int) nt)<=1000/\∀t∈cN hl tl (i:Int) nt,(∀y∈t.e,0<=y/\y<6)/\E t.e<=1000):=ay ⟨bM (fu _ _ _ _) n8.o,λt ht=>V7 (qL (n5.o t (fR (by rw[d4.o];exact nR _) t ht))).1⟩;have r9:Hh (E (U a5 q qA).e<=1000):=ay (by have:=(V7 (qL (HH.o.ok q (by rw[<-HN.o];exact j3)).1).1).2;omega);have s3:Hh (E (zg ps ch i)<=20):=ay (bM (qFm _ _ _) Oo);have s4:Hh ((yN ps (i:Int) es (E es)).map Mg.ch=zg ps ch i):=ay (qHX c7.o j2.o);generalize hts:cN hl tl (i:Int) nt=ts at *;have s5:=ay hts;clear hts;generalize U a5 i qA=t at *;generalize (U a5 q qA).e=qv at *;rw[h7.o]at o9;have s6:Hh (qW t):=ay HM.o.2.1.1;obtain⟨h6,w8⟩:=V7 (qL s6.o).1;have w9:E qv<=1000:=r9.o;go_upto_region 5 with fail;have e7:Bl wr (S wr (eZ #[Z y0 (E t.e) z0,Z y1 (E t.x) z1,Z y2 (E t.k) z2] 58)):=(bJ _ _).alloc (nR _) _;have p2:=TX.zw wr (Z y0 (E t.e) z0) (Z y1 (E t.x) z1) (Z y2 (E t.k) z2);generalize (S wr (eZ #[Z y0 (E t.e) z0,Z y1 (E t.x) z1,Z y2 (E t.k) z2] 58))=W4 at *;have h8:=j0.o.zz (bt d5.o e7);have t0:=h8.c0;have t1:=h8.c1;replace h4:=qF e7 h4;replace g0:=qF e7 g0;clear d0 d1 d2;go_quiet (fail)
  have b9:Hh (Bl W4 (W4.drewN nq)):=ay (below_drewN (bJ _ _) nq);generalize W4.drewN nq=W5 at *;have a8:Hh (Bl wr W5):=ay (bt e7 b9.o);have p3:=h8.zz b9.o;have p4:=p2.zz b9.o;have k6:=ay p3;have e8:=ay p4;clear h8 t0 t1 h4 g0 p2 e7 b9 p3 p4;have k7:Hh (∀W,Bl W5 W->Cl 96 #[Z y0 (E t.e) z0,Z y3 (E qv) z3] W λe w'=>∃a c,e=rE (Z a (E (shr t.e qv)) c)/\oW w' (J W.1) 3 1 (Z a (E (shr t.e qv)) c) (E (shr t.e qv)) ((shr t.e qv).map ai)/\Bl W w'):=ay λW hW=>(Zj W _ _ t.e qv (j5.o.e.zz (bt a8.o hW)) (r8.o.zz (bt a8.o hW)) Oo Oo).mono (by
   rintro e w' ⟨v,rfl,ho,hb⟩;obtain⟨a,c,rfl⟩:=qG ho;exact⟨a,c,rfl,ho,hb⟩)
  have k8:Hh (∀W,Bl W5 W->Cl 96 #[Z y0 (E t.e) z0,Z a4 (E hd) k4] W λe w'=>∃a c,e=rE (Z a (E (shr t.e hd)) c)/\oW w' (J W.1) 3 1 (Z a (E (shr t.e hd)) c) (E (shr t.e hd)) ((shr t.e hd).map ai)/\Bl W w'):=ay λW hW=>(Zj W _ _ t.e hd (j5.o.e.zz (bt a8.o hW)) (r4.o.zz (bt g8.o (bt a8.o hW))) Oo (O1 r6.o)).mono (by
   rintro e w' ⟨v,rfl,ho,hb⟩;obtain⟨a,c,rfl⟩:=qG ho;exact⟨a,c,rfl,ho,hb⟩)
  go_upto_region 6 with fail;go_cut [13] from 36 to 46 (λu wc=>∃(pm be:Nat) (c1:Option Addr) (e1:Nat) (c2:Option Addr) (e2:Nat),u=pZ pm 0/\Hh (Mm r W5 wc pm be (Z c1 (E (shr t.e qv)) e1) (Z c2 (E (shr t.e hd)) e2) (shr t.e qv) (shr t.e hd)))
  case first=>
   have HS:Hh (∀W,Bl W5 W->eQ W (az (J wr.1) 0)=Q (Z y0 (E t.e) z0)):=ay λW hW=>(e8.o.zz hW).c0;have t9:J wr.1<J W5.1:=e8.o.lt;have p5:Hh (∀(Y:oX) (p:Nat) (u0 u1 u2 u3:oV),p≠J wr.1->eQ Y (az (J wr.1) 0)=Q (Z y0 (E t.e) z0)->eQ (sW (sW (sW (sW Y (az p 0) u0) (az p 1) u1) (az p 2) u2) (az p 3) u3) (az (J wr.1) 0)=Q (Z y0 (E t.e) z0)):=ay λY p u0 u1 u2 u3 s7 hc=>by
    have hn:∀(X:oX) (j:Nat) (u:oV),eQ X (az (J wr.1) 0)=Q (Z y0 (E t.e) z0)->eQ (sW X (az p j) u) (az (J wr.1) 0)=Q (Z y0 (E t.e) z0):=λX j u h=>(bF (w:=X) (a:=(az (J wr.1) 0)) (bD _ _ _ _ (by exact s7.symm))).trans h;exact hn _ _ _ (hn _ _ _ (hn _ _ _ (hn _ _ _ hc)))
   unfold rgV;generalize hl1:E (shr t.e qv)=l1 at *;generalize hl2:E (shr t.e hd)=l2 at *;have s8:=ay hl1;have s9:=ay hl2;clear hl1 hl2;go_region_held_law (λW=>eQ W (az (J wr.1) 0)=Q (Z y0 (E t.e) z0))
    (first
     |(refine HS.o _ ?_;(repeat(first|(with_reducible exact bJ _ _)|(with_reducible exact bW)|(with_reducible exact bX)|(with_reducible refine qT ?_)|(with_reducible refine qC ?_ _)));done)
     |(refine p5.o _ _ _ _ _ _ ?_ ?_;(go_light;have:=bW.size;have:=bX.size;omega);(refine HS.o _ ?_;(repeat(first|(with_reducible exact bJ _ _)|(with_reducible exact bW)|(with_reducible exact bX)|(with_reducible refine qT ?_)|(with_reducible refine qC ?_ _)));done))
     |fail)
    (first
     |(go_simp;go_at_call 96;(with_reducible refine(k7.o _ (by(repeat(first|(with_reducible exact bJ _ _)|(with_reducible exact bW)|(with_reducible exact bX)|(with_reducible refine qT ?_)|(with_reducible refine qC ?_ _))))).mono ?_);rintro e t2 ⟨x3,x4,rfl,i0,a7⟩;have bW:Bl W5 t2:=bt (by(repeat(first|(with_reducible exact bJ _ _)|(with_reducible exact bW)|(with_reducible exact bX)|(with_reducible refine qT ?_)|(with_reducible refine qC ?_ _)))) a7;(first
        |(with_reducible have hq:=At.O (At.new (c:=#[.nilIface,sn,sn,.map wH]) (t:=149) rfl) a7)
        |(with_reducible have hq:=At.O (At.al (At.new (c:=#[.nilIface,sn,sn,.map wH]) (t:=149) rfl) _) a7)
        |(with_reducible have hq:=At.O (At.dr (At.new (c:=#[.nilIface,sn,sn,.map wH]) (t:=149) rfl)) a7)
        |(with_reducible have hq:=At.O (At.dr (At.al (At.new (c:=#[.nilIface,sn,sn,.map wH]) (t:=149) rfl) _)) a7)
        |(with_reducible have hq:=At.O hq a7)
        |(with_reducible have hq:=At.O (At.al hq _) a7)
        |skip);(first
        |(with_reducible have hm:=At.O (At.newM rfl) a7)
        |(with_reducible have hm:=At.O (At.al (At.newM rfl) _) a7)
        |(with_reducible have hm:=At.O (At.dr (At.newM rfl)) a7)
        |(with_reducible have hm:=At.O (At.dr (At.al (At.newM rfl) _)) a7)
        |(with_reducible have hm:=At.O hm a7)
        |(with_reducible have hm:=At.O (At.al hm _) a7)
        |skip);(try simp only[size_alloc]at hq);(try simp only[size_alloc]at hm))
     |(go_simp;go_at_call 96;(with_reducible refine(k8.o _ (by(repeat(first|(with_reducible exact bJ _ _)|(with_reducible exact bW)|(with_reducible exact bX)|(with_reducible refine qT ?_)|(with_reducible refine qC ?_ _))))).mono ?_);rintro e p6 ⟨a12,x5,rfl,i3,a6⟩;have bX:Bl W5 p6:=bt (by(repeat(first|(with_reducible exact bJ _ _)|(with_reducible exact bW)|(with_reducible exact bX)|(with_reducible refine qT ?_)|(with_reducible refine qC ?_ _)))) a6;(try have h9:=qI4 i0 i3 (by(repeat(first|(with_reducible exact bJ _ _)|(with_reducible refine qT ?_)|(with_reducible refine qC ?_ _)|(with_reducible refine bt ?_ a6)))));(first
        |(with_reducible have hq:=At.O (At.new (c:=#[.nilIface,sn,sn,.map wH]) (t:=149) rfl) a6)
        |(with_reducible have hq:=At.O (At.al (At.new (c:=#[.nilIface,sn,sn,.map wH]) (t:=149) rfl) _) a6)
        |(with_reducible have hq:=At.O (At.dr (At.new (c:=#[.nilIface,sn,sn,.map wH]) (t:=149) rfl)) a6)
        |(with_reducible have hq:=At.O (At.dr (At.al (At.new (c:=#[.nilIface,sn,sn,.map wH]) (t:=149) rfl) _)) a6)
        |(with_reducible have hq:=At.O hq a6)
        |(with_reducible have hq:=At.O (At.al hq _) a6)
        |skip);(first
        |(with_reducible have hm:=At.O (At.newM rfl) a6)
        |(with_reducible have hm:=At.O (At.al (At.newM rfl) _) a6)
        |(with_reducible have hm:=At.O (At.dr (At.newM rfl)) a6)
        |(with_reducible have hm:=At.O (At.dr (At.al (At.newM rfl) _)) a6)
        |(with_reducible have hm:=At.O hm a6)
        |(with_reducible have hm:=At.O (At.al hm _) a6)
        |skip);(try simp only[size_alloc]at hq);(try simp only[size_alloc]at hm);(try obtain⟨q0,q1,q2,q3,f0,f1,f2,f3⟩:=hq.msg);(try obtain⟨r0,r1,r2,r3,e0,e1,e2,e3⟩:=hq.msgA);obtain⟨n0,n1,n2,n3,m0,m1,m2,m3⟩:=(At.new (w:=p6) (c:=#[.nilIface,sn,sn,.map wH]) (t:=149) rfl).msgA)
     |fail)
   all_goals
    clear k7 k8 HS p5 n0 n1 n2 n3 m0 m1 m2 m3
    try clear q0 q1 q2 q3 f0 f1 f2 f3 r0 r1 r2 r3 e0 e1 e2 e3
    go_wp2
    go_meet
    go_light
    refine⟨_,?_,?_,?_,?_,?_,rfl,ay ?_⟩
    rotate_right
    first
     |(with_reducible refine mmA ?_ ?_ ?_ ?_ ?_ ?_ ?_ h9)
     |(with_reducible refine mmB ?_ ?_ ?_ ?_ ?_ ?_ h9)
     |(with_reducible refine mmC ?_ ?_ ?_ ?_ ?_ ?_ h9)
     |(with_reducible refine mmD ?_ ?_ ?_ ?_ ?_ h9)
    all_goals first
     |((repeat(first|(with_reducible exact bJ _ _)|(with_reducible exact bW)|(with_reducible exact bX)|(with_reducible refine qT ?_)|(with_reducible refine qC ?_ _)));done)
     |((repeat(first|(with_reducible exact hq)|(with_reducible refine At.al ?_ _)));done)
     |((repeat(first|(with_reducible exact hm)|((with_reducible refine At.newM ?_);(first|rfl|(simp;done)))|(with_reducible refine At.al ?_ _)));done)
     |(rw[s8.o];exact qE (qB i0 (by(repeat(first|(with_reducible exact bJ _ _)|(with_reducible refine qT ?_)|(with_reducible refine qC ?_ _)|(with_reducible refine bt ?_ a6))))) (by(first|exact nR _|(have:=bW.size;have:=bX.size;first|omega|(simp;done)|(simp;omega)))))
     |(rw[s9.o];exact qE (qB i3 (by(repeat(first|(with_reducible exact bJ _ _)|(with_reducible refine qC ?_ _))))) (by(first|exact nR _|(have:=bW.size;have:=bX.size;first|omega|(simp;done)|(simp;omega)))))
     |(first|rfl|(simp;done))
     |(first|exact nR _|(have:=bW.size;have:=bX.size;first|omega|(simp;done)|(simp;omega)))
  case rest=>
   obtain⟨pm,be,c1,e1,c2,e2,rfl,l0⟩:=hcut;generalize wc=W6 at *;have b9:Hh (∀W,Bl W6 W->Bl W5 W):=ay λW hW=>bt l0.o.O hW;have l3:Bl w W5:=bt g8.o a8.o;have KA:Hh (∀W,Bl W6 W->Cl 98 #[aQ #[sZ b o n k0,sZ bp op n k1,Z a2 nh k2],ai (i:Int),Z a3 nt k3] W λe w'=>∃v,e=rE v/\RgS W5 w' (J W6.1) v ts/\Bl W w'):=ay λW hW=>by
    have h5:=b9.o W hW;apply (qAO W5 W _ _ _ _ _ _ _ _ hl tl _ h5 (q8.o.zz (bt l3 h5)) (q9.o.zz l3) (by rw[r7.o,d4.o];exact n7.o) (by rw[d4.o];exact n8.o) n5.o r5.o).mono;rintro e w' ⟨v,rfl,h2,hb⟩;rw[d4.o,s5.o]at h2;exact⟨v,rfl,h2.low hW.size,hb⟩
   have KB:Hh (∀W,Bl W6 W->Cl 99 #[aQ #[sZ b o n k0,sZ bp op n k1,Z a2 nh k2],ai (i:Int),vs] W λe w'=>∃v,e=rE v/\MsS r W5 w' (J W6.1) v (zg ps ch i)/\Bl W w'):=ay λW hW=>by
    have h5:=b9.o W hW;apply (below_calls W _ _ _ _ _ _ _ _ ps es _ (i9.o.zz (bt l3 h5)) (d9.o.zz (bt a8.o h5)).mgs (by rw[c7.o,g5.o];omega) (by rw[c7.o];omega)).mono;rintro e w' ⟨v,rfl,hM,hb⟩;have hS:=hM.is (w0:=W5) (lo:=J W6.1) hW.size λe he=>(d9.o.zz a8.o).l e (qFp he) W5 λ_ _ _ _=>rfl;rw[s4.o]at hS;exact⟨v,rfl,hS,hb⟩
   have KG:Hh (∀W vr vb,Bl W6 W->RgS W5 W (J W6.1) vr ts->MsS r W5 W (J W6.1) vb (zg ps ch i)->Cl 97 #[pZ pm 0,aQ #[Z y0 (E t.e) z0,Z y1 (E t.x) z1,Z y2 (E t.k) z2],vr,vb] W λe w'=>e=rE (.tuple #[])/\∃a9 l9 k9,Bl W5 w'/\MgB r w' pm be (Z c1 (E (shr t.e qv)) e1) (Z a9 l9 k9)/\Fz (J wr.1) (λX=>ChA X (Z c1 (E (shr t.e qv)) e1) (Z a9 l9 k9) be (ch i)) w'):=ay λW vr vb hW h2 h3=>by
    obtain⟨m1,m2,m3,m4,m5⟩:=HM.o;obtain⟨t3,t4⟩:=l0.o.ga hW (j5.o.zz a8.o) m2.1 m2.2 h2 p1.o.1 p1.o.2 h3 s3.o (by rw[<-h7.o];exact⟨m4.1.1,m4.2.1⟩);apply (o9.o W5 W _ _ _ _ _ vr vb _ _ _ t3 t4).mono;rintro e w' ⟨rfl,v,p7,-,D,hg⟩;obtain⟨a9,k9,e9⟩:=qG hg.hd.z;subst e9;obtain⟨hB,hF⟩:=l0.o.sent hW hg (c:=ch i) (B:=J wr.1) a8.o.size h7.o m1 (by rw[<-h7.o];exact m3) m4;exact⟨rfl,a9,_,k9,hB,hg.mb,hF⟩
   have HS:Hh (∀W,Bl W5 W->eQ W (az (J wr.1) 0)=Q (Z y0 (E t.e) z0)/\eQ W (az (J wr.1) 1)=Q (Z y1 (E t.x) z1)/\eQ W (az (J wr.1) 2)=Q (Z y2 (E t.k) z2)/\eQ W (az (J w.1) 0)=Q (sZ b o n k0)/\eQ W (az (J w.1) 1)=Q (sZ bp op n k1)/\eQ W (az (J w.1) 2)=Q (Z a2 nh k2)):=ay λW hW=>⟨(e8.o.zz hW).c0,(e8.o.zz hW).c1,(e8.o.zz hW).c2,(k6.o.zz hW).c0,(k6.o.zz hW).c1,(k6.o.zz hW).c2⟩;have b0:Bl W6 W6.drew:=(bJ _ _).drew;have b1:=b9.o _ b0;clear k7 k8;go_upto_region 7 with fail;go_region_held_law (λW=>eQ W (az (J wr.1) 0)=Q (Z y0 (E t.e) z0)/\eQ W (az (J wr.1) 1)=Q (Z y1 (E t.x) z1)/\eQ W (az (J wr.1) 2)=Q (Z y2 (E t.k) z2)/\eQ W (az (J w.1) 0)=Q (sZ b o n k0)/\eQ W (az (J w.1) 1)=Q (sZ bp op n k1)/\eQ W (az (J w.1) 2)=Q (Z a2 nh k2))
    (first
     |with_reducible exact HS.o _ b1
     |with_reducible exact HS.o _ b2
     |with_reducible exact HS.o _ b3
     |with_reducible exact HS.o _ f7
     |fail)
    (first
     |(go_simp;go_at_call 98;(with_reducible refine(KA.o _ b0).mono ?_);rintro e x7 ⟨vr,rfl,p8,p9⟩;have bA:=bt b0 p9;have b2:=b9.o _ bA)
     |(go_simp;go_at_call 99;(with_reducible refine(KB.o _ bA).mono ?_);rintro e y4 ⟨vb,rfl,q4,i4⟩;have bB:=bt bA i4;have b3:=b9.o _ bB;have i5:=p8.keep λk _ hk=>i4.block k hk)
     |(go_simp;go_at_call 97;(with_reducible refine(KG.o _ _ _ bB i5 q4).mono ?_);rintro e q5 ⟨rfl,a9,l9,k9,f7,f8,i6⟩)
     |fail)
   all_goals
    obtain⟨m0,m1,m2,m3,-⟩:=f8.cells
    unfold rgV at m0
    have c9:Hh (Bl wr q5):=ay (bt a8.o f7)
    have HF:=ay i6
    have HO:=qB d9.o.z c9.o
    have t5:J W1.1<=q5.1.size:=(bt d5.o c9.o).size
    have j1:E es<=20:=by rw[c7.o];omega
    clear KA KB KG HS f7 f8 i6 q4 p8 i5 bA bB b1 b2 b3
    go_wp2_with (first
     |(at_builtin;refine wpList_append_lies _ rfl _ _ 145 rfl (J W1.1) 149 iM (aQ #[.nilIface,sn,sn,.map wH]) 4 72 underlying145 hi m8 m9 n4 rfl Dd vs (E es) (es.flatMap (mcl r)) rfl (HO.alloc _) (az _ 0) 1 1 [.iface (rgT r) (aQ #[]),Z c1 (E (shr t.e qv)) e1,Z a9 l9 k9,.map (Q be)] rfl rfl (U0 _ _ _ _ _ _) (λu hu=>by simp at hu;rcases hu with rfl|rfl|rfl|rfl <;> rfl) Dd Um Oo Sy _ rfl ?_;intro g10 t6 q6 d3 b8 f9 l4)
     |fail)
    have HP:Hh (Snt r (J W1.1) q6 (sZ g10 0 (E es+1) t6) (es++[⟨c1,_,e1,a9,l9,k9,be,ch i⟩])/\Bl W1 q6):=ay ⟨d9.o.push d5.o.size c9.o HF.o d3 b8 f9,((bt d5.o c9.o).alloc t5 _).grown b8 Sy λk hk=>(HO.lt k hk).1⟩
    clear d3 b8 f9 l4 HO m0 m1 m2 m3
    go_roundw
    case rel=>exact⟨i+1,_,Oo,Gg,rfl,ay ⟨_,by rw[lA,c7.o];rfl,λj hj=>by
     by_cases e:j<i;rw[gD,aL (by rw[c7.o];exact e),<-gD];exact j2.o j e;obtain rfl:j=i:=Oo;rw[gD,bQ (by rw[c7.o];omega),c7.o,iV];rfl,HP.o.1,HP.o.2⟩⟩
    case measure=>go_light;exact Im
 obtain rfl:i=n:=Oo;have i1:¬((i:Int)<i):=Oo;obtain⟨m,rfl⟩:∃m,i=m+1:=⟨i-1,Oo⟩;obtain⟨aS,kS,eS,g4⟩:=d9.o.mgs;rw[c7.o]at eS g4;subst eS;rcases g4 with h0|⟨bS,oS,rfl,g4⟩;omega;obtain⟨-,-,-,g3,l5⟩:=g4 m Oo;rw[j2.o m Oo]at l5;generalize U es m zZ=mg at *;obtain⟨B',p7,D',d6⟩:=l5.en;have hz:Ok6 z6:=⟨rfl,Dd⟩;have i7:keyOf Tryz.prog 140 (aQ #[ai 0,ai 0,ai 0,ai 0,ai 0,ai 0])=Q (kla z6):=yP hz;obtain⟨vv,pp,y5,hvv⟩:=d6.map.z.lookup Tryz.lawA Tryz.underEn (Tryz.zeroW _) (zd:=.lit (.int .i64 (-1))) (zp:=[]) rfl i7;have HE:Hh (MsE (ch m) w wr vv):=ay (by
  refine⟨?_,bt n9.o d5.o⟩;by_cases hm:z6∈p7.map Prod.fst;obtain⟨⟨s',cc⟩,i8,e⟩:=cC.1 hm;have e:s'=z6:=e;subst e;rw[d6.ref _ i8]at hvv;obtain rfl:=Zk hvv;obtain⟨kc,Dc,t7⟩:=d6.inner _ i8;exact Or.inr ⟨cc,kc,Dc,rfl,t7⟩;refine Or.inl ⟨?_,λa=>by
   cases e5:(ch m).iQ z6 a with
   |none=>rfl
   |some x=>exact absurd (d6.all _ _ _ e5) hm⟩
  rw[atKey_of_not_has (by rw[d6.map.has _ hz];exact fC hm)]at hvv;obtain⟨rv,rfl⟩:=qAD hvv;cases rv with
  |none=>rfl
  |some c=>
   unfold kK at hvv;simp only[oI,rD,DataW.lit.injEq,Lit.int.injEq,true_and]at hvv;omega)
 clear l5 d6 i7 hvv g4;go_wp2;go_ret;exact⟨_,rfl,HE.o⟩
