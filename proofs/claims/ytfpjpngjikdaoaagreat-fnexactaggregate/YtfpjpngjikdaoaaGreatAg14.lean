import Derived.Test.YtfpjpngjikdaoaaGreatAg13
import Derived.Deep.RegionHeld
import Derived.OrdersIn
import Derived.Deep.Cut
import Derived.Lib.Split
import Derived.Shelf.SlLaysF0
import Derived.Shelf.SlSortCmp.KitK
import Derived.Shelf.SlSortCmp.NoneTotal
import Derived.Shelf.SlSortCmp.WholeK
import Derived.Test.YtfpjpngjikdaoaaGreatProg
import Derived.Test.YtfpjpngjikdaoaaGreatAg05
import Derived.Test.YtfpjpngjikdaoaaGreatAg01
import Derived.Maps.OwnSet
import Derived.Maps.OwnOps
import Derived.Maps.Views
import Derived.StringKeys
set_option maxHeartbeats 40000000
set_option maxRecDepth 1000000
set_option linter.defProp false
open List Go.World
open List renaming length->E,getD->U
open Array renaming size->J
open Go.World renaming alloc->S,setCell->sW,cell?->eQ,ownsRow->oW
open Go.Value renaming slice->Z,bool->oB,agg->aQ
open Go.Obj renaming cells->eZ
open Go.Ending renaming returned->rE
open Option renaming some->Q
open Bool renaming false->nF
open Decidable renaming decide->oD
open Go renaming World->oX,Value->oV,wpAnyH_ready->tB,undef->tM
namespace Go.Proofs.YtfpjpngjikdaoaaGreat
open Go.Proofs.Tryz Go.RowKit
section
variable {B K:Nat}
structure Bx2(ty:TypeId)(W:oX)(p:Nat)(v0 v1:oV):Prop where
 i:W.1[p]?=Q (eZ #[v0,v1] ty (0,0))
section
variable {ty:TypeId} {W W':oX} {p:Nat} {v0 v1:oV}
def Bx2.lt(h:Bx2 ty W p v0 v1):p<J W.1:=by
 rcases dL p (J W.1) with I|I;exact I;have:=h.i;rw[dO I]at this;cases this
def Bx2.at(h:Bx2 ty W p v0 v1)(hb:Below B W W')(I:p<B):Bx2 ty W' p v0 v1:=⟨(hb.block p I).trans h.i⟩
def Bx2.c0(h:Bx2 ty W p v0 v1):eQ W (az p 0)=Q v0:=by rw[eI h.i];rfl
def Bx2.c1(h:Bx2 ty W p v0 v1):eQ W (az p 1)=Q v1:=by rw[eI h.i];rfl
def Bx2.L(h:Bx2 ty W p v0 v1)j:W.frozen? (az p j)=false:=by unfold World.frozen?;rw[h.i];simp
def Bx2.zw ty(w:oX)v0 v1:Bx2 ty (S w (eZ #[v0,v1] ty)) (J w.1) v0 v1:=⟨eO⟩
def Bx2.gr{Y s n u e}{xs:LV}(h:Bx2 ty W p v0 v1)(ho:oW W B e s u n xs)(I:e≠ty)(K:W.grownBy Y u.ownBlock):Bx2 ty Y p v0 v1:=⟨(K.block p h.lt (own_ne ho ⟨_,h.i⟩ I)).trans h.i⟩
def Bx2.set1(h:Bx2 ty W p v0 v1)u:Bx2 ty (sW W (az p 1) u) p v0 u:=⟨by rw[eN h.i];rfl⟩
end
def uP{A X}(h:Bl A X)o:Bl A (S X o):=h.alloc h.size o
def VY{w:oX}{x y t}:∀j u,[x,y][j]?=Q u->(S w (eZ #[x,y] t)).cell? (((az (J w.1) 0):Addr).add j)=Q u:=by
 intro j u I;have e:((az (J w.1) 0):Addr).add j=(az (J w.1) j):=by unfold Addr.add;by_cases K:j=0 <;> simp[K]
 rw[e,eH rfl];match j,I with
 |0,I=>simpa using I
 |1,I=>simpa using I
 |j+2,I=>simp at I
def Tryz.infoAn:(Tryz.prog.info? 82).map (λi=>(i.zero,i.size,i.bytes))=Q (Q (aQ #[sn,sn]),2,48):=Kl
structure AnB(W0 W:oX)(p i:Nat)(v0:oV)(lw:LI)(a:OA)(c:Nat):Prop where
 bx:Bx2 82 W p v0 (Z a i c)
 z:oW W (p+1) 3 1 (Z a i c) i (lw.map ai)
 O:Below p W0 W
def VZ w{vt tl}(h:ITsC w vt tl)(hk:K<=6)(hl:E tl<=7)(c9:okJ tl (upR K)):
 Cl 44 #[ai (K:Int),vt] w λe w'=>∃v,e=rE (.tuple #[v,oB (oD (0<=zK tl (upR K)))])/\AnS tl w' v (qO tl (upR K))/\Bl w w':=by
 obtain⟨i0,hi,f7,f8,f9⟩:=aX Tryz.infoInt;obtain⟨iA,hA,p5,p6,p7⟩:=aX Tryz.infoAn;have r7:Tryz.prog.follows .mixedOrders:=Kl;have d8:∀W:oX,Bl W W.drew:=λW=>(bJ _ _).drew;have HP:Hh (∀j,(upR (j+1)).map ai=(upR j).map ai++[ai (j:Int)]):=ay λj=>by rw[qBG,mA];rfl
 have j4:Hh ((upR 0).map ai=[]):=ay rfl;obtain⟨-,d1,e7⟩:=QH c9;have KJ:Hh (∀W vo,Bl w W->oW W (J w.1) 3 1 vo K ((upR K).map ai)->Cl 61 #[vt,vo] W λe w'=>∃a c,e=rE (.tuple #[Z a (E (qO tl (upR K))) c,ai (zK tl (upR K))])/\ISS w' (Z a (E (qO tl (upR K))) c) (qO tl (upR K))/\Bl W w'):=ay λW vo hW ho=>by
  apply (qAw W vo (h.its.zz hW) (qN (by rw[zO];exact ho)) Oo (by rw[zO];omega) (λt ht=>XW (d1 t ht)) (YQ e7)).mono;rintro e w' ⟨v,rfl,hF,hb⟩;rw[<-(vY c9).1]at hF;rw[<-(vY c9).2];have hI:=hF.self;obtain⟨a,c,e0,-⟩:=id hI;subst e0;exact⟨a,c,rfl,hI,hb⟩
 have g4:Hh (∀j,j<E (qO tl (upR K))->∀i,i<E tl->qM (U tl i qA).e (U (qO tl (upR K)) j [])∈(U tl i qA).x/\E (U (qO tl (upR K)) j [])=K/\∀y∈(U tl i qA).e,0<=y/\y<K):=ay λj hj i hi=>qGe c9 (qz hj) (qz hi);have j5:Hh (∀i,i<E tl->qW (U tl i qA)):=ay λi hi=>d1 _ (qz hi);have j6:Hh (E (qO tl (upR K))<=10000):=ay y8.1;obtain⟨p8,ct,rfl,hc⟩:=h;have HC:Hh (∀i,i<E tl->∃(b oo:Nat) (v0 v1 v2:oV),p8=Q (az b oo)/\(∀W,Bl w W->eQ W (az b (oo+i*3))=Q v0/\eQ W (az b (oo+i*3+1))=Q v1/\eQ W (az b (oo+i*3+2))=Q v2/\IT W v0 v1 v2 (U tl i qA).e (U tl i qA).x (U tl i qA).k/\ISSc W v1 (U tl i qA).x)):=ay λi hi=>by
  rcases hc with h0|⟨b,oo,rfl,h⟩;omega;obtain⟨v0,v1,v2,c0,c1,c2,hI,hS⟩:=h i hi;exact⟨b,oo,v0,v1,v2,rfl,λW hW=>⟨qF hW c0,qF hW c1,qF hW c2,hI.zz hW,hS.zz hW⟩⟩
 have k3:Hh (∀row i,i<E tl->wgL (tl.take (i+1)) row=wgL (tl.take i) row++[wgI (U tl i qA) row]):=ay λrow i hi=>by
  unfold wgL;rw[tA,gE hi,mA,gdR hi];rfl
 clear hc d1 e7 c9;generalize zK tl (upR K)=VJ at *;obtain⟨BV,g5⟩:=Ex (oD (0<=VJ));rw[<-g5];have k4:=ay g5;clear g5;generalize hrw:qO tl (upR K)=rows at *;clear hrw;obtain⟨nt,g6⟩:=Ex (E tl);rw[<-g6]at hl g4 j5 HC KJ k3 |-;have k5:=ay g6;clear g6;obtain⟨nr,g7⟩:=Ex (E rows);have c7:=ay g7;rw[<-g7]at KJ g4 j6;clear g7;obtain⟨W1,g8⟩:=Ex (S w (eZ #[] 3));have h4:Hh (oW W1 (J w.1) 3 1 (sZ (J w.1) 0 0 0) 0 []/\Bl w W1):=ay (by rw[g8];exact⟨oM w _ 0 (nR _) Dd rfl,aK⟩);go_enter func44,ntmps44;go_upto_region 2 with fail;rw[<-g8];clear g8;go_wp2;go_loopw [6,7] (λu t wr=>∃(j:Nat) (vo:oV),j<=K/\t=ai j/\vo=u/\Hh (oW wr (J w.1) 3 1 vo j ((upR j).map ai)/\Bl w wr)) (λ_ t _=>K-(intOf t).toNat);exact⟨0,_,nZ _,rfl,rfl,ay ⟨by rw[j4.o];exact h4.1,h4.2⟩⟩;clear h4 j4;obtain⟨j,vo,hj,rfl,rfl,HT⟩:=hrel;by_cases r8:j<K
 .have i1:(j:Int)<K:=Oo;have d9:=ay (HP j);have h5:=HT.2.size;go_wp2_with (at_builtin;refine apL rfl rfl underlying24 Tryz.infoInt (HT.o.1.alloc _) rfl rfl (qH _ _ _) Sy ?_;intro g3 cp3 w4 a9 a6 k6 k7);go_roundw;exact⟨j+1,_,Oo,Gg,rfl,ay ⟨by rw[d9.o];exact a9,(HT.2.alloc h5 _).grown a6 Sy (λq hq=>(HT.1.lt q hq).1)⟩⟩;exact Im
 obtain rfl:K=j:=Oo;have i1:¬((K:Int)<K):=Oo;have k8:=ay (KJ _ _ HT.2 HT.1);clear KJ HP;generalize wr=wA at *;obtain⟨ao,co,eo⟩:=qG HT.1;subst eo;go_upto_region 7 with (go_at_call 61;apply k8.o.mono;rintro e w3 ⟨ar,cr,rfl,k9,l0⟩);have e3:=ay (bt HT.2 l0);have l1:=ay k9;clear k8 l0 k9 HT;obtain⟨W4,h6⟩:=Ex (S w3 (eZ #[] 82));have l2:Hh (AnM tl w3 W4 (sZ (J w3.1) 0 0 0) (rows.take 0) []):=ay (by rw[h6];exact⟨rfl,oM _ _ 0 (nR _) Dd rfl,λi hi=>by simp at hi,aK⟩);have l3:Hh (∀j,j<nr->rows.take (j+1)=rows.take j++[U rows j []]/\E (rows.take j)=j):=ay λj hj=>⟨by rw[tA,gE (by rw[<-c7.o];exact hj),gdR (by rw[<-c7.o];exact hj)];rfl,by rw[bZ,<-c7.o];omega⟩;have l4:Hh (rows.take nr=rows):=ay (by rw[c7.o,tL]);have l5:Hh (∀j,j<nr->∃(b o:Nat) (u:oV),ar=Q (az b o)/\IS w3 u (U rows j [])/\∀W,Bl w3 W->eQ W (az b (o+j))=Q u):=ay λj hj=>by
  obtain⟨a,c,e,hh⟩:=l1.o;simp only[vI]at e;obtain⟨rfl,-,-⟩:=e;rcases hh with h0|⟨b,o,rfl,hh⟩;have:=c7.o;omega;obtain⟨u,V,h2⟩:=hh j (by rw[<-c7.o];exact hj);exact⟨b,o,u,rfl,h2,λW hW=>qF hW V⟩
 go_upto_region 8 with fail;rw[<-h6];clear h6 l1;go_wp2;go_loopw [10,38] (λu t wr=>∃(j:Nat) (vA:oV),j<=nr/\t=ai j/\vA=u/\Hh (∃cs,AnM tl w3 wr vA (rows.take j) cs)) (λ_ t _=>nr-(intOf t).toNat);exact⟨0,_,nZ _,rfl,rfl,ay ⟨_,l2⟩⟩;clear l2;obtain⟨j,vA,r9,rfl,rfl,e4⟩:=hrel;by_cases h7:j<nr
 .have i2:(j:Int)<nr:=Oo;obtain⟨br,s3,u,ea,hu,l6⟩:=l5 j h7;subst ea;obtain⟨cs,hM⟩:=e4.o;have HM:=ay hM;have e1:=l6 _ hM.O;have HU:=ay hu;have l7:=ay (e3.o.trans (hM.O.mono e3.o.size));have d9:=ay (g4 j h7);have l8:=ay (l3 j h7);have p9:=ay (hu.zz hM.O);obtain⟨au,cu,eu,-⟩:=id hu;clear hu l6 hM e4 l5 l3 l4;generalize U rows j []=row at *;obtain⟨lu,h8⟩:=Ex (E row);rw[<-h8]at eu;subst eu;have h9:=ay h8;clear h8;obtain⟨W5,i7⟩:=Ex (S wr (eZ #[Z au lu cu,sn] 82));have l9:Hh (AnB wr W5 (J wr.1) 0 (Z au lu cu) (wgL (tl.take 0) row) none 0):=ay (by rw[i7];exact⟨Bx2.zw _ _ _ _,oN _ _ _ _,aK⟩);go_upto_region 12 with fail;rw[<-i7];clear i7 e1;go_wp2_with fail;generalize wr=wo at *;go_loopw [46] (λt wx=>∃(i:Nat),i<=nt/\t=ai i/\Hh (∃a c,AnB wo wx (J wo.1) i (Z au lu cu) (wgL (tl.take i) row) a c)) (mZ nt);exact⟨0,nZ _,rfl,ay ⟨_,_,l9⟩⟩;clear l9;obtain⟨i,hint,rfl,i8⟩:=hrel;by_cases d2:i<nt
  .have i3:(i:Int)<nt:=Oo;obtain⟨bT,oT,v0,v1,v2,ea,m0⟩:=HC i d2;subst ea;obtain⟨aw,cw,a3⟩:=i8.o;have b7:=ay a3;obtain⟨c0,c1,c2,hI,m1⟩:=m0 _ (l7.o.trans (a3.O.mono l7.o.size));obtain⟨g1,-,g3⟩:=d9 i d2;have m2:=j5 i d2;have m3:=ay (k3 row i d2);generalize U tl i qA=tb at *;have HI:=ay hI;have m4:=ay m1;have m5:=ay g1;have q3:=ay g3;have a4:=ay m2;obtain⟨a0,k0,e0,-⟩:=id hI.e;obtain⟨a1,k1,e1,-⟩:=id hI.x;obtain⟨a2,k2,e2,-⟩:=id hI.k;subst e0 e1 e2;clear m0 hI m1 g1 g3 m2 a3 i8;obtain⟨Wp,c8⟩:=Ex (S (S wr (eZ #[Z a0 (E tb.e) k0,Z a1 (E tb.x) k1,Z a2 (E tb.k) k2] 58)) (eZ #[] 3));have q4:Bl wr Wp:=by rw[c8];exact uP (uP (bJ _ _) _) _
   have s4:J wr.1+1<=J Wp.1:=by rw[c8];simp
   have i9:Hh (TX Wp (J wr.1) (Z a0 (E tb.e) k0) (Z a1 (E tb.x) k1) (Z a2 (E tb.k) k2)):=ay (by
    rw[c8];exact(TX.zw _ _ _ _).zz (aK))
   have m6:Hh (oW Wp (J wr.1+1) 3 1 (sZ (J wr.1+1) 0 0 0) 0 []):=ay (by
    have V:=oM (base:=J wr.1+1) (S wr (eZ #[Z a0 (E tb.e) k0,Z a1 (E tb.x) k1,Z a2 (E tb.k) k2] 58)) (#[]) 0 (e:=3) (size:=1) Ss Dd rfl;rw[c8];rw[size_alloc]at V;exact V)
   have e5:Hh (∀X,Below (J wr.1+1) Wp X->Bl wr X):=ay λX hX=>q4.trans (hX.mono Oo);have m8:Hh (∀X,Below (J wr.1+1) Wp X->∀m,m<E tb.e->∃(b o q br oo:Nat),a0=Q (az b o)/\au=Q (az br oo)/\q<lu/\eQ X (az b (o+m))=Q (ai (q:Int))/\eQ X (az br (oo+q))=Q (ai (U row q 0))/\U tb.e m 0=(q:Int)):=ay λX hX m hm=>by
    have s5:=(d9 i d2).2.1;obtain⟨h0,V⟩:=q3 _ (qz (d:=0) hm);have e:U tb.e m 0=((U tb.e m 0).toNat:Int):=Oo;have hq:(U tb.e m 0).toNat<lu:=O1 h9.o
    obtain⟨a,c,ev,hh⟩:=HI.o.e;simp only[vI]at ev;obtain⟨rfl,-,-⟩:=ev;obtain⟨a',c',m9,q5⟩:=(p9.o.zz b7.o.O);simp only[vI]at m9;obtain⟨rfl,-,-⟩:=m9;rcases hh with h2|⟨b,o,rfl,h2⟩;omega;rcases q5 with h3|⟨br,oo,rfl,h3⟩;have:=h9.o;omega;refine⟨b,o,(U tb.e m 0).toNat,br,oo,rfl,rfl,hq,?_,?_,e⟩;rw[<-e];exact qF (e5 X hX) (h2 m hm);exact qF (e5 X hX) (h3 _ (by rw[<-h9.o];exact hq))
   have n3:Hh (∀m q,m<E tb.e->U tb.e m 0=((q:Nat):Int)->(qM (tb.e.take (m+1)) row).map ai=(qM (tb.e.take m) row).map ai++[ai (U row q 0)]):=ay λm q hm e=>by
    unfold qM;rw[tA,gE hm,mA,mA];rw[gdR hm]at e;simp[e]
   have s6:=xz (qL a4).1;go_upto_region 16 with fail;rw[<-c8];clear c8 c0 c1 c2;have d0:=i9.o.c0;go_wp2_with fail;clear d0;generalize wr=wt at *;go_loopw [16,54] (λu t wx=>∃(m:Nat) (vp:oV),m<=E tb.e/\t=ai m/\vp=u/\Hh (oW wx (J wt.1+1) 3 1 vp m ((qM (tb.e.take m) row).map ai)/\Below (J wt.1+1) Wp wx)) (λ_ t _=>E tb.e-(intOf t).toNat);exact⟨0,_,nZ _,rfl,rfl,ay ⟨m6,bJ _ _⟩⟩;clear m6;obtain⟨m,vp,s7,rfl,rfl,HT⟩:=hrel;by_cases n4:m<E tb.e
   .have i4:(m:Int)<(E tb.e:Int):=Oo;obtain⟨bb,o,q,s8,oo,ea,eb,hq,f1,f2,f3⟩:=m8 _ HT.2 m n4;subst ea eb;have i5:(q:Int)<lu:=Oo;have q6:=ay (n3 m q n4 f3);have h5:=HT.2.size;clear f3;generalize U row q 0=y at *;go_wp2_with (at_builtin;refine apL rfl rfl underlying24 Tryz.infoInt (HT.o.1.alloc _) rfl rfl (qH _ _ _) Sy ?_;intro g3 cp3 w4 a9 a6 k6 k7);go_roundw;exact⟨m+1,_,Oo,Gg,rfl,ay ⟨by rw[q6.o];exact a9,(HT.2.alloc Oo _).grown a6 Sy (λq hq=>(HT.1.lt q hq).1)⟩⟩;exact Im
   obtain rfl:m=E tb.e:=Oo;have i4:¬((E tb.e:Int)<(E tb.e:Int)):=Oo;have d3:=ay (e5 _ HT.2);have n5:=ay (by
    have V:=HT.1;rw[tL]at V;exact qN (by rw[vd];exact V))
   obtain⟨app,q7,q8⟩:=qG HT.1;subst q8;have d4:Hh (TX wr (J wt.1) (Z a0 (E tb.e) k0) (Z a1 (E tb.x) k1) (Z a2 (E tb.k) k2)):=ay ⟨(HT.2.block _ (Nat.lt_succ_self _)).trans i9.o.i⟩;have M:=ay (b7.o.bx.at d3 b7.o.bx.lt);have s9:=(qL a4).2.1;have n6:E tb.k=E tb.x:=by
    have h':ql tb.e tb.x tb.k:=a4;unfold ql at h';rw[bV,dE]at h';exact h'.2
   have n7:=ay n6;clear n6;have n8:Hh (∃bw ow,a2=Q (az bw ow)/\∀W,Bl wr W->∀kk,kk<E tb.k->eQ W (az bw (ow+kk))=Q (ai (U tb.k kk 0))):=ay (by
    obtain⟨a,c,ev,hh⟩:=HI.o.k;simp only[vI]at ev;obtain⟨rfl,-,-⟩:=ev;have h0:=length_pos_of_mem m5;rcases hh with h2|⟨b,o,rfl,h2⟩;have:=n7.o;omega;exact⟨b,o,rfl,λW hW kk n9=>qF (bt d3 hW) (h2 kk n9)⟩)
   obtain⟨bw,ow,q9,o3⟩:=n8.o;subst q9;have o5:Hh (Cl 47 #[Z a1 (E tb.x) k1,Z app (E tb.e) q7] wr.drew λe w'=>∃(kk:Nat),e=rE (ai kk)/\kk<E tb.k/\eQ w' (az bw (ow+kk))=Q (ai (wgI tb row))/\Bl wr w'):=ay (by
    refine(uR _ _ _ ((m4.o.zz d3.o).zz (d8 _)) (n5.o.zz (d8 _)) (qFB a4.o) Oo (λr hr=>?_)).mono ?_;have:=(qL a4).2.2 r hr;rw[vd];omega;rintro e w' ⟨kk,rfl,r3,d,rfl⟩;obtain⟨r4,d5⟩:=qG4 (qFB a4) m5 (λr hr=>by have:=(qL a4).2.2 r hr;rw[vd];omega) r3;rw[<-n7.o]at d5;have hb':Bl wr (wr.drew.drewN d):=below_drewN (d8 _) d;exact⟨kk,rfl,d5,by unfold wgI;rw[<-r4];exact o3 _ hb' _ d5,hb'⟩)
   have e6:Hh (∀W,Bl wr W->eQ W (az (J wo.1) 1)=Q (Z aw i cw)/\eQ W (az (J wt.1) 1)=Q (Z a1 (E tb.x) k1)/\eQ W (az (J wt.1) 2)=Q (sZ bw ow (E tb.k) k2)):=ay λW hW=>⟨(M.o.at hW M.o.lt).c1,(d4.o.zz hW).c1,(d4.o.zz hW).c2⟩;have a8:Hh (∀W,Bl wr W->oW W (J wo.1+1) 3 1 (Z aw i cw) i ((wgL (tl.take i) row).map ai)):=ay (λW hW=>qD b7.o.z λg hg=>(bt d3 hW).block g (b7.o.z.lt g hg).2);have j0:Hh ((wgL (tl.take (i+1)) row).map ai=(wgL (tl.take i) row).map ai++[ai (wgI tb row)]):=ay (by rw[m3.o,mA];rfl);generalize wgI tb row=y at *;obtain⟨xs,o6⟩:=Ex ((wgL (tl.take i) row).map ai);rw[<-o6]at a8 j0;clear o6 m3;have d6:=a8;have t4:=M.o.lt;have e8:Hh (∀(w9 O:oX) (ob:Obj) (g11 d7:Nat),Bl wr w9->(S w9 ob).grownBy O (Value.slice aw i cw).ownBlock->O.ownsRow (J wo.1+1) 3 1 (sZ g11 0 (i+1) d7) (i+1) (xs++[ai y])->∃a c,AnB wo (sW O (az (J wo.1) 1) (sZ g11 0 (i+1) d7)) (J wo.1) (i+1) (Z au lu cu) (wgL (tl.take (i+1)) row) a c):=ay λw9 O ob g11 d7 I hg o7=>by
    have V:=(M.o.at (uP I _) M.o.lt).gr ((d6 _ I).alloc ob) Dd hg
    exact⟨_,_,V.set1 _,by rw[j0.o];exact qI o7 ⟨_,V.i⟩ Dd,(((b7.o.O.trans ((bt d3 (uP I ob)).mono b7.o.O.size))).grown hg (by have:=I.size;simp;omega) λq hq=>by have:=((d6 _ I).lt q hq).1;omega).setCell (nR _) _⟩
   have e9:Hh (∀(w9 O:oX) (ob:Obj),Bl wr w9->(S w9 ob).grownBy O (Value.slice aw i cw).ownBlock->eQ O (az (J wo.1) 1)=Q (Z aw i cw)/\O.frozen? (az (J wo.1) 1)=nF):=ay λw9 O ob I hg=>by
    have V:=(M.o.at (uP I _) M.o.lt).gr ((d6 _ I).alloc ob) Dd hg;exact⟨V.c1,V.L 1⟩
   go_upto_region 21 with fail;obtain⟨s0,s1,s2⟩:=e6 _ (d8 _);have t5:i<=7:=Oo;clear M d4 n5 HI m4 n8 o3 HT i9 m8 n3 e5;go_region_law (first
    |(refine step_append_lies _ Fl _ _ _ Fl (J wo.1+1) 3 i0 (ai 0) 1 8 underlying24 hi f7 f8 f9 rfl Dd (Z aw i cw) i xs Fl ((d6.o w9 I).alloc _) (az (J w9.1) 0) 1 1 [ai y] Fl Fl (qH _ _ _) Hu Dd Um Oo (by have:=I.size;simp;omega) _ rfl ?_;intro g11 d7 O b9 a5 j1 j2;obtain⟨q1,q2⟩:=e9 _ O _ I a5)
    |(go_simp;go_at_call 47;apply o5.o.mono;rintro e w9 ⟨kk,rfl,n9,t6,I⟩;have i6:(kk:Int)<(E tb.k:Int):=Oo;obtain⟨t0,t1,t2⟩:=e6 _ I;have t3:=λob=>(e6 _ (uP I ob)).1)
    |fail)
   all_goals(
    have HN:=ay (e8 _ O _ _ _ I a5 b9))
   all_goals clear e8 e9 d6 a8 j0 e6 o5 b9 a5 j1 j2
   all_goals try simp only[Exit.inBlock,Exit.then]
   all_goals go_wp2_with fail
   all_goals go_roundw
   all_goals first
    |exact⟨i+1,Oo,Gg,HN⟩
    |exact Im
  obtain rfl:nt=i:=Oo;have i3:¬((nt:Int)<nt):=Oo;obtain⟨aw,cw,a3⟩:=i8.o;have b0:=a3.bx.c0;have b1:=a3.bx.c1;have h5:=bM HM.o.O.size a3.O.size;have a8:=ay (by
   have V:=HM.o.z;rw[l8.o.2]at V;exact qD V λg hg=>a3.O.block g (V.lt g hg).2)
  have t7:j<=10000:=O1 j6.o
  go_wp2_with (at_builtin;refine wpList_append_lies _ rfl _ _ 78 rfl (J w3.1) 82 iA (aQ #[sn,sn]) 2 48 underlying78 hA p5 p6 p7 rfl Dd vA _ _ rfl (a8.o.alloc _) (az _ 0) 1 1 [Z au lu cu,Z aw nt cw] rfl rfl (VY) (λu hu=>by simp at hu;rcases hu with rfl|rfl <;> rfl) Dd Um Oo Sy _ rfl ?_;intro g9 r5 w9 b8 a7 p1 p2);have j3:Hh (∀{B:Nat} {v:oV} {n:Nat} {xs:LV},oW wr B 3 1 v n xs->oW w9 B 3 1 v n xs):=ay λh=>qD h λg hg=>zD a7 (h.lt g hg).2 (own_ne a8 (qK h hg) Dd);have p4:=ay (j3.o (by
   have V:=a3.z;rw[k5.o,tL]at V;exact V))
  have HN:Hh (∃cs,AnM tl w3 w9 (sZ g9 0 (j+1) r5) (rows.take (j+1)) cs):=ay (by
   have V:=l8.o;rw[V.1];have h3:=V.2;rw[k5.o]at b8;generalize rows.take j=RJ at *;subst h3;exact⟨_,HM.o.push (λh=>(λh=>j3 (qD h λg hg=>a3.O.block g (h.lt g hg).2)) h) p4 HU b8 (((ay (HM.o.O.trans (a3.O.mono HM.o.O.size))).o.alloc Oo _).grown a7 Sy λq hq=>(a8.o.lt q hq).1)⟩)
  clear b8 a7 p1 p2 a8 HM b0 b1 j3 p4;go_wp2;go_roundw;exact⟨j+1,_,Oo,Gg,rfl,HN⟩;exact Im
 obtain rfl:nr=j:=Oo;have i2:¬((nr:Int)<nr):=Oo;obtain⟨cs,hM⟩:=e4.o;have HF:Hh (AnS tl wr vA rows/\Bl w wr):=ay ⟨by have:=hM.is;rwa[l4.o]at this,e3.o.trans (hM.O.mono e3.o.size)⟩;clear hM e4;by_cases hv:0<=VJ
 .obtain rfl:BV:=by rw[k4.o];exact fD hv
  go_wp2;go_ret2;first|exact⟨⟨_,rfl⟩,HF.o.1,HF.o.2⟩|exact⟨_,rfl,HF.1,HF.2⟩
 obtain rfl:BV=false:=by rw[k4.o];exact fC hv
 go_wp2;go_ret2;first|exact⟨⟨_,rfl⟩,HF.o.1,HF.o.2⟩|exact⟨_,rfl,HF.1,HF.2⟩
end
end Go.Proofs.YtfpjpngjikdaoaaGreat
namespace Go.Proofs.YtfpjpngjikdaoaaGreat
open Go.Proofs.Tryz Go.RowKit
variable {B g l n p m c:Nat}{W w w0 X Y w6:oX}{P:Program}{a:Act}{iQ:Exit->Act->WP}{ops:Array Oper}
def qDz{o:Oper}{K V:Act->WP}(I:∀c,o.op≠.defer c)(M:∀a w,K a w->V a w)(h:o.wp P a w K iQ):o.wpIn (Fence.wide.inRound l) n P a w V iQ:=by
 unfold Oper.wpIn;refine⟨λf _=>trivial,?_⟩;rw[Oper.semAt_eq _ _ _ I];unfold Oper.wp at h;generalize (execOp a.eval o).run P w=r at *;cases r with
 |ok x w'=>
  cases x <;> simp only[Oper.uponIn,Oper.upon]at h |- <;> first
   |exact M _ _ h
   |exact⟨(λO=>by cases O),CallsIn.inRound l (nW.2 (h.mono λe w'' he=>by cases e <;> first|exact M _ _ he|exact he))⟩
   |exact⟨(λO=>by cases O),λc cs _=>by obtain⟨v,w'',r,s⟩:=h c cs;exact⟨v,w'',M _ _ r,stepsIn_wide.2 s⟩⟩
   |exact h.elim
 |halt x w'=>cases x <;> simp only[Oper.uponIn,Oper.upon]at h |- <;> exact h
def jC(I:∀(i:Nat) (o:Oper),ops[i]?=Q o->∀c,o.op≠.defer c)(K:¬LetsOut iQ):∀(ls:LN) (a:Act) (w:oX),wpOps P ops iQ ls a w->wpOpsIn (Fence.wide.inRound l) n P ops iQ ls a w
 |[],_,_,h=>h
 |i::rest,a,w,h=>by
  rw[wpOps_cons]at h;rw[wpOpsIn_cons];unfold wpOp at h;unfold wpOpIn;cases ho:ops[i]? with
  |none=>
   simp only[ho]at h |-;exact jC I K rest a w h
  |some o=>
   simp only[ho]at h |-;by_cases M:Region.wanted o (yielded ops a.tmps)
   .rw[fE M]at h |-;rcases h with h|⟨-,h⟩;exact qDz (I i o ho) (λa w=>jC I K rest a w) h;exact absurd h K
   rw[fF M]at h |-;exact⟨λf _=>trivial,jC I K rest _ _ h⟩
def qJX(o:Oper):Bool:=match o.op with| .defer _=>false|_=>true
def qBS{id}{sS:WP}(K:P.follows .mixedOrders)(hd:ops.all qJX)(M:¬LetsOut iQ)(O:sS w.drew)(h:sS w.drew->wpAnyH P .any ops iQ sS ops.size (Array.replicate ops.size nF) a w.drew):(Code.region id ops true).wpIn (Fence.wide.inRound l) n P iQ a w:=by
 refine wpIn_region_draw λt=>jC (λi o ho c e=>?_) M _ _ _ ?_;have I:=sR.1 hd o (Array.mem_of_getElem? ho);unfold qJX at I;rw[e]at I;cases I
 simp only[Region.schedule,K,Bool.true_or,nI];exact wpAny_sound _ t _ a _ (wpAny_of_held _ _ _ _ (h O))
open Meet Go.Shelf
attribute [local go_sem] Oper.semAt_some
def js{t}(h:qW t):E t.e<=1099511627776/\qS t.x:=⟨(ZT h).e,(ZT h).x⟩
def VU W{a0 a1 a2 b0 K b2 a b}(hA:IT W a0 a1 a2 a.e a.x a.k)(hB:IT W b0 K b2 b.e b.x b.k)(M:qW a)(hb:qW b):
 Cl 92 #[aQ #[a0,a1,a2],aQ #[b0,K,b2]] W λe w'=>∃(O:OA) (m0 z0:Nat) (V:OA) (m1 z1:Nat) (q2:OA) (m2 z2:Nat) (us:LV),e=rE (aQ #[Z O m0 z0,Z V m1 z1,Z q2 m2 z2])/\TWr w' (J W.1) ⟨Z O m0 z0,Z V m1 z1,Z q2 m2 z2,us,(xk a b).e,(xk a b).x,(xk a b).k⟩/\Bl W w':=by
 apply (Ju W K hA hB (js M).1 (js M).2 (js hb).1 (js hb).2 M hb).mono;rintro e w' ⟨x0,x1,x2,us,rfl,I,hb'⟩;have⟨O,z0,e0⟩:=qG I.o0;have⟨V,z1,e1⟩:=qG I.rq.z;have⟨q2,z2,e2⟩:=qG I.o2;subst e0 e1 e2;exact⟨_,_,_,_,_,_,_,_,_,us,rfl,I.tw,hb'⟩
def RdW.kt{x0 x1 x2 prs T}(h:RdW w0 p x0 x1 x2 prs T X)(O:KT B X Y)(hB:J w0.1<=B):RdW w0 p x0 x1 x2 prs T Y:=by
 have⟨⟨rl,I,h2⟩,V,h4,h5⟩:=h;have M:∀{e:TypeId} {b s n:Nat} {v:oV} {xs:LV},oW X b e s v n xs->e≠270->e≠4->oW Y b e s v n xs:=λho g1 g2=>qD ho λg hg=>by
  have⟨cur,hc⟩:=qK ho hg;exact O.cel g _ _ _ hc g1 g2
 exact⟨⟨rl,⟨M I.z Dd Dd,λt K=>⟨M (I.l t K).o0 Dd Dd,⟨M (I.l t K).rq.z Dd Dd,(I.l t K).rq.C,λi hi=>M ((I.l t K).rq.l i hi) Dd Dd,(I.l t K).rq.ap⟩,M (I.l t K).o2 Dd Dd,(I.l t K).a02,(I.l t K).a0,(I.l t K).a2⟩,I.ap⟩,h2⟩,⟨(O.cel p _ _ _ V.i Dd Dd).trans V.i⟩,M h4 Dd Dd,h5.trans (O.O.mono hB)⟩
def qJS(iQ:Exit->Act->WP):Exit->Act->WP
 | .panic _,_,_=>False
 |e,a,w=>iQ e a w
def qGa{e}(h:qJS iQ e a w):iQ e a w:=by
 cases e <;> first|exact h|exact h.elim
def Z4{o0 o1 o2 y0 y1 y2}(hb:Bl W w6)(O:g<B)(hB:B<=J W.1):KeepsFrom B W (sW (sW (sW w6 (az g o0) y0) (az g o1) y1) (az g o2) y2)/\KpG B g W (sW (sW (sW w6 (az g o0) y0) (az g o1) y1) (az g o2) y2):=by
 have hs:J (sW (sW (sC w6 g o0 y0) (az g o1) y1) (az g o2) y2).1=J w6.1:=Ss;have I:∀k,k≠g->(sW (sW (sC w6 g o0 y0) (az g o1) y1) (az g o2) y2).1[k]?=w6.1[k]?:=λk I=>by
  rw[eG I,eG I,eG I]
 refine⟨⟨by rw[hs];exact hb.size,λk o M K _=>?_⟩,⟨by rw[hs];exact hb.size,λk M K=>?_⟩⟩;rw[I k Oo,hb.block k (qZ K)];exact K;rw[I k K,hb.block k Oo]
def qBJ w g c0{gp c1}{a2:OA}{n2 c2}T{prs:LI}{par}(hw:Bl w0 w)(hT:∃rl,TBs w (J w0.1) (sZ g 0 (m+1) c0) rl/\rl.map tvB=T)(i4:E T=m+1)(f9:E prs=m+1)(hP:oW w (J w0.1) 3 1 (sZ gp 0 (m+1) c1) (m+1) (prs.map ai))(hm:m<=12)(c7:∀i,i<m->U prs i 0=(par i:Int)/\par i<=m)
 (hU:∀n,n<=m->∀i,i<=m->qW (U (upT par T n) i qA)) (hD:∀n,n<=m->∀i,i<=m->qW (U (dnT par m (upT par T m) n) i qA)):
 Cl 71 #[aQ #[sZ g 0 (m+1) c0,sZ gp 0 (m+1) c1,Z a2 n2 c2]] w λe w'=>(∃v,e=rE v)/\(∃rl,TBs w' (J w0.1) (sZ g 0 (m+1) c0) rl/\rl.map tvB=dnT par m (upT par T m) m)/\Bl w0 w'/\KpG (J w.1) g w w':=by
 have d6:∀W:oX,Bl W W.drew:=λW=>eB.drew;have⟨W1,d7⟩:=Ex (S w (eZ #[sZ g 0 (m+1) c0,sZ gp 0 (m+1) c1,Z a2 n2 c2] 97));have d8:Hh (Bl w W1):=ay (by rw[d7];exact x8 eB _);have d9:Hh (RdW w0 (J w.1) (sZ g 0 (m+1) c0) (sZ gp 0 (m+1) c1) (Z a2 n2 c2) prs T W1):=ay (by
  have⟨rl,O,h2⟩:=hT;exact⟨⟨rl,O.zz d8,h2⟩,by rw[d7];exact Bx3.zw _ _ _ _ _,by rw[f9];exact qB hP d8,bt hw d8⟩)
 have i6:g<J w.1:=by
  obtain⟨rl,O,-⟩:=hT;exact(O.z.lt g rfl).2
 have m5:m+1<=c1:=by
  rcases hP.2 with ⟨O,-⟩|⟨g',cap,cur,e,-,-,O,-⟩;cases O
  simp only[vI]at e;obtain⟨-,-,rfl⟩:=e;exact O
 have HD:=ay hD;change Hh _ at c7 hU;have g4:Hh (∀n,E (upT par T n)=m+1):=ay λn=>by rw[XZ,i4]
 have g5:Hh (∀n,E (dnT par m (upT par T m) n)=m+1):=ay λn=>by rw[UU,XZ,i4]
 have e2:Hh (∀(V:List TbV) (W:oX),RdW w0 (J w.1) (sZ g 0 (m+1) c0) (sZ gp 0 (m+1) c1) (Z a2 n2 c2) prs V W->∀i,i<m->aC W gp i (ai (par i:Int))):=ay λV W h i hi=>by
  have O:=h.pa;rw[f9]at O;have O:=O.cellAt i Oo;rw[bK,gE Oo,<-gdR (d:=0) Oo,(c7 i hi).1]at O;exact O
 clear hT hP hw hD f9;refine(nW (n:=0)).1 (callsIn_of_wp_marks func71 rfl trivial ?_ rfl);simp only[ntmps71,size_toArray,cQ,length_nil,Nat.reduceAdd,Nat.reduceSub,pI,pH,push_toArray,append_toArray,nil_append,cons_append];refine wpIn_mono ?_ (λe a w h=>qGa h);refine(oF).2 ?_;go_upto_region 1 with fail;rw[<-d7];clear d7;have k0:=d9.o.bx.c0;have k1:=d9.o.bx.c1;have g6:Hh (∀i,upT par T (i+1)=(upT par T i).set (par i) (xk (U (upT par T i) (par i) qA) (U (upT par T i) i qA))):=ay λi=>rfl;have i8:Hh (RdW w0 (J w.1) (sZ g 0 (m+1) c0) (sZ gp 0 (m+1) c1) (Z a2 n2 c2) prs (upT par T 0) W1):=ay d9;clear d9;go_wp2_with fail;clear k0 k1;go_loopw [16] (λt wr=>∃(i:Nat),i<=m/\t=ai i/\Hh (RdW w0 (J w.1) (sZ g 0 (m+1) c0) (sZ gp 0 (m+1) c1) (Z a2 n2 c2) prs (upT par T i) wr/\KpG (J w.1) g w wr)) (mZ m);exact⟨0,eC,rfl,ay ⟨i8,KpG.of d8⟩⟩;clear i8;obtain⟨i,g7,rfl,g8⟩:=hrel;have HR:=ay g8.1;have c8:=ay g8.2;clear g8;by_cases i9:i<m
 .have i1:=aV i9;have e1:=e2 _ _ HR i i9;have hq:=(c7 i i9).2;have⟨q,j0⟩:=Ex (par i);have g9:=ay (g6 i);have h5:=hU i g7 _ hq;have b7:=hU i g7 i g7;have j1:=g4 i;rw[<-j0]at e1 hq g9 h5;clear j0;generalize hV:upT par T i=V at *;clear hV;have⟨p0,m0,d0,p1,m1,d1,p2,m2,d2,c9⟩:=HR.o.cells (j:=q) Oo;have⟨r0,n0,f0,r1,n1,f1,r2,d3,f2,d4⟩:=HR.o.cells (j:=i) Oo;have a4:=ay c9;have a5:=ay d4;have e3:Hh (∀W,Bl wr W->Cl 92 #[aQ #[Z p0 m0 d0,Z p1 m1 d1,Z p2 m2 d2],aQ #[Z r0 n0 f0,Z r1 n1 f1,Z r2 d3 f2]] W λe w'=>∃(q0:OA) (m0 z0:Nat) (q1:OA) (m1 z1:Nat) (q2:OA) (m2 z2:Nat) (us:LV),e=rE (aQ #[Z q0 m0 z0,Z q1 m1 z1,Z q2 m2 z2])/\TWr w' (J wr.1) ⟨Z q0 m0 z0,Z q1 m1 z1,Z q2 m2 z2,us,(xk (U V q qA) (U V i qA)).e,(xk (U V q qA) (U V i qA)).x,(xk (U V q qA) (U V i qA)).k⟩/\Bl wr w'):=ay λW hW=>by
   apply (VU W (a4.o W hW).2.2.2 (a5.o W hW).2.2.2 h5 b7).mono;rintro e w' ⟨q0,m0,z0,q1,m1,z1,q2,m2,z2,us,rfl,O,h2⟩;exact⟨_,_,_,_,_,_,_,_,_,us,rfl,TW.zx O hW.size,bt hW h2⟩
  have b8:Hh (∀W,Bl wr W->aC W (J w.1) 0 (sZ g 0 (m+1) c0)/\aC W g (q*3) (Z p0 m0 d0)/\aC W g (q*3+1) (Z p1 m1 d1)/\aC W g (q*3+2) (Z p2 m2 d2)/\aC W g (i*3) (Z r0 n0 f0)/\aC W g (i*3+1) (Z r1 n1 f1)/\aC W g (i*3+2) (Z r2 d3 f2)):=ay λW hW=>⟨(HR.o.bx.zz hW).c0,(a4 W hW).1,(a4 W hW).2.1,(a4 W hW).2.2.1,(a5 W hW).1,(a5 W hW).2.1,(a5 W hW).2.2.1⟩;have a6:Hh (∀W,Bl wr W->∀j,W.frozen? (az g j)=nF):=ay λW hW j=>by
   obtain⟨rl,O,-⟩:=HR.o.tb;have⟨cur,hc⟩:=qK (qB O.z hW) (g:=g) rfl;unfold World.frozen?;rw[hc];simp
  have f7:Hh (∀W (t:TbR),Bl wr W->TWr W (J wr.1) t->RdW w0 (J w.1) (sZ g 0 (m+1) c0) (sZ gp 0 (m+1) c1) (Z a2 n2 c2) prs (V.set q (tvB t)) (sW (sW (sC W g (q*3) t.v0) (az g (q*3+1)) t.v1) (az g (q*3+2)) t.v2)):=ay λW t hW ht=>HR.o.put hW ht Oo;have k8:J w.1≠g:=λe=>by
   obtain⟨rl,O,-⟩:=HR.o.tb;have⟨cur,a7⟩:=qK O.z (g:=g) rfl;have:=HR.o.bx.i;rw[e,a7]at this;simp only[oI,iL]at this;exact absurd this.2.1 Dd
  have i2:(q:Int)<m+1:=Oo;have i3:(i:Int)<m+1:=Oo;clear c9 d4 a4 a5 HR e2 c7 hU HD g4 g5 g6 h5 b7;generalize xk (U V q qA) (U V i qA)=ST at *;go_upto_region 5 with fail;have⟨l0,l1,l2,l3,l4,l5,l6⟩:=b8 _ (d6 _);have a8:∀(W:oX) (j:Nat) (u:oV),aC W (J w.1) 0 (sZ g 0 (m+1) c0)->eQ (sW W (az g j) u) (az (J w.1) 0)=Q (sZ g 0 (m+1) c0):=λW j u hW=>by
   rw[eE Nq];exact hW
  refine wp_region_held_drew (S:=λX=>eQ X (az _ 0)=Q (sZ g 0 _ _)) Kl l0 (λI=>?_);refine wTk 0 ?_;try simp only[Act.put,aO]
  refine wTk 1 ?_;try simp only[Act.put]
  refine wTk 2 ?_;try simp only[Act.put]
  refine wTk 3 ?_;try simp only[Act.put]
  refine wTk 4 ?_;try simp only[Act.put]
  refine wTk 5 ?_;try simp only[Act.put]
  refine wTk 6 ?_;try simp only[Act.put]
  refine wTk 8 ?_;try simp only[Act.put]
  refine wTk 9 ?_;try simp only[Act.put]
  refine wTk 10 ?_;try simp only[Act.put]
  refine wTk 11 ?_;try simp only[Act.put]
  refine tB (rs:=[7,12]) Kl Ss ?_
  refine AllReadyH.cons rfl (λK M=>?_) (AllReadyH.cons rfl (λK M=>?_) AllReadyH.nil)
  focus
   go_simp
   refine M.out _ _ l0 (λI=>?_)
   clear M K
   try simp only[Act.put,aO,bk,bn]
   refine tB (rs:=[12]) Kl Ss ?_
   refine AllReadyH.cons rfl (λK M=>?_) AllReadyH.nil
   go_simp
   refine M.out _ _ l0 (λI=>?_)
   clear M K
   try simp only[Act.put,aO,bk,bn]
  rotate_left;focus
   go_simp
   refine M.out _ _ l0 (λI=>?_)
   clear M K
   try simp only[Act.put,aO,bk,bn]
   refine tB (rs:=[7]) Kl Ss ?_
   refine AllReadyH.cons rfl (λK M=>?_) AllReadyH.nil
   go_simp
   refine M.out _ _ l0 (λI=>?_)
   clear M K
   try simp only[Act.put,aO,bk,bn]
  all_goals
   refine tB (rs:=[13]) Kl Ss ?_
   refine AllReadyH.cons rfl (λK M=>?_) AllReadyH.nil
   go_simp
   go_at_call 92
   apply (e3.o _ (d6 _)).mono
   rintro e w6 ⟨y0,b0,z0,y1,b1,z1,y2,b2,z2,us,rfl,e4,a3⟩
   obtain⟨s0,s1,s2,s3,-,-,-⟩:=b8 _ a3
   have g0:=a6 _ a3 (q*3)
   have g1:=a6 _ a3 (q*3+1)
   have g2:=a6 _ a3 (q*3+2)
   go_wp2_with fail
   refine M.out _ _ s0 (λI=>?_)
   clear M K
   try simp only[Act.put,aO,bk,bn]
   refine wTk 14 ?_
   try simp only[Act.put,aO]
   refine tB (rs:=[15]) Kl Ss ?_
   refine AllReadyH.cons rfl (λK M=>?_) AllReadyH.nil
   go_simp
   refine M.out _ _ (a8 _ _ _ (a8 _ _ _ (a8 _ _ _ s0))) (λI=>?_)
   clear M K
   try simp only[Act.put,aO,bk,bn]
   refine wpAnyH_done Kl ?_ _
   have HN:Hh (RdW w0 (J w.1) (sZ g 0 (m+1) c0) (sZ gp 0 (m+1) c1) (Z a2 n2 c2) prs (upT par T (i+1)) (sW (sW (sW w6 (az g (q*3)) (Z y0 b0 z0)) (az g (q*3+1)) (Z y1 b1 z1)) (az g (q*3+2)) (Z y2 b2 z2))/\KpG (J w.1) g w (sW (sW (sW w6 (az g (q*3)) (Z y0 b0 z0)) (az g (q*3+1)) (Z y1 b1 z1)) (az g (q*3+2)) (Z y2 b2 z2))):=ay (by
    rw[g9.o];refine⟨?_,c8.o.trans (Z4 a3 i6 c8.o.size).2⟩;exact f7 _ _ a3 e4)
   clear f7 g9 b8 a6 e3 e4 a8 l0 l1 l2 l3 l4 l5 l6 s0 s1 s2 s3 g0 g1 g2 I
   try simp only[Exit.inBlock,Exit.then]
   go_wp2
   go_roundw
  all_goals first
   |exact⟨i+1,Oo,Gg,HN⟩
   |exact Im
 obtain rfl:m=i:=Oo;have i1:=aY m;have k1:=HR.o.bx.c1;have⟨W2,e5⟩:=Ex (S wr (eZ #[sZ gp 0 m c1] 24));have e6:Bl wr W2:=by rw[e5];exact x8 eB _
 have j2:Hh (Cl 93 #[sZ gp 0 m c1] wr λe w'=>e=rE (.func (.func 131) #[] #[pZ (J wr.1) 0])/\w'=W2):=ay (by rw[e5];exact UR m);have e7:=HR.o.zz e6;have e8:g<J wr.1/\gp<J wr.1/\gp≠g:=by
  obtain⟨rl,O,-⟩:=HR.o.tb;refine⟨(O.z.lt g rfl).2,(HR.o.pa.lt gp rfl).2,λe=>?_⟩;have⟨cur,a7⟩:=qK O.z (g:=g) rfl;have⟨m4,a9⟩:=qK HR.o.pa (g:=gp) rfl;rw[e,a7]at a9;simp only[oI,iL]at a9;exact absurd a9.2.1 Dd
 have hs2:=e6.size;have⟨ls,h6⟩:=Ex ((range m).map λi=>(par i:Int));have h7:E ls=m:=by rw[h6];simp
 have h8:∀i,i<m->U ls i 0=(par i:Int):=λi hi=>by rw[gdR Oo];simp[h6]
 have hG:=VT W2 (J wr.1) g c1 ls (by rw[h7,e5];exact eO) Oo Oo e8.2.2 (λj hj=>by rw[h8 j Oo];exact e2 _ _ e7 j Oo) Oo;rw[h7]at hG;have j4:=ay e8;change Hh _ at hG h8;obtain⟨II,h9⟩:=Ex (λpre W=>RdW w0 (J w.1) (sZ g 0 (m+1) c0) (sZ gp 0 (m+1) c1) (Z a2 n2 c2) prs (dnT par m (upT par T m) (E pre)) W/\J W2.1<=J W.1/\KpG (J w.1) g w W:LN->WP);have i0:=ay h9;have j5:=bM c8.o.size hs2
 have f8:=e7.O.size;have e9:∀s X Y,II s X->KT (J W2.1) X Y->II s Y:=λs X Y h hk=>by rw[h9]at h |-;exact⟨h.1.kt hk f8,bM h.2.1 hk.O.size,h.2.2.trans (KpG.of (hk.O.mono j5))⟩
 clear e8 h7 h6 e5;go_wp2_with (go_at_call 93;apply j2.o.mono;rintro e w7 ⟨rfl,hw7⟩;subst w7);refine(oF (n:=0)).1 ?_;refine QB (α:=Nat) (β:=Nat×Int) (gf:=131) (lb:=#[pZ (J wr.1) 0]) rfl (enters_of func131 Kl rfl) hG.o (λ_=>rfl)
  (λO h2=>KpG.trans O h2) (λl W o o' O h2 h3=>KpG.of (KT.put (B:=J W2.1) o' O h2 h3).O) (λ_ _ _=>trivial)
  II (λ_ _=>False) e9 (λ_ _ _ h _=>h) (by rw[h9];exact⟨e7,eA,c8.o.trans (KpG.of (e6.mono c8.o.size))⟩)
  (λl pre x b a' W=>II pre W/\x+E pre+1=m/\a'={ tmps:=#[aQ #[sZ g 0 (m+1) c0,sZ gp 0 (m+1) c1,Z a2 n2 c2],pZ (J w.1) 0,ai (m:Int),u3,u4,ai (x:Int),ai (par x:Int),pZ (J w.1) 0,sZ g 0 (m+1) c0,ai ((m:Int)+1),ai (m:Int),pZ (J w.1) 1,sZ gp 0 (m+1) c1,ai (m:Int),sZ gp 0 m c1,ai (m:Int),ai (m:Int),oB nF,u18,u19,u20,u21,u22,u23,u24,u25,u26,u27,u28,u29,u30,u31,u32,u33,u34,u35,u36,pZ (J w.1) 1,sZ gp 0 (m+1) c1,ai (m:Int),sZ gp 0 m c1,.func (.func 131) #[] #[pZ (J wr.1) 0],ai (x:Int),ai (par x:Int),tM,tM,tM,tM,tM,tM,tM,tM,tM,tM,tM,tM,tM,tM,tM],defers:=[] })
  (λl pre x b a' W o o' O h2 h3 h4=>⟨e9 _ _ _ O.1 (KT.put (B:=J W2.1) o' h2 h3 h4),O.2⟩)
  ?assign ?body ?done ?stop
 case assign=>
  rintro l pre x b X Y K k9 hI hk ⟨rfl,l7⟩ ⟨rr,l8⟩ M;have m3:=h8 x Oo;rw[m3];gi_wp2
  exact M _ _ (KeepsFrom.refl _ _) (KpG.of eB) ⟨e9 _ _ _ hI hk,Oo,rfl⟩
 case body=>
  rintro l pre x b a' W k9 ⟨rr,l8⟩ ⟨hI,l7,rfl⟩;have b9:=hI;rw[i0.o]at b9;obtain⟨hR,j6,k3⟩:=b9;have hq:=(c7 x Oo).2;obtain⟨i,d5⟩:=Ex (par x);have k4:Hh (dnT par m (upT par T m) (E (pre++[x]))=(dnT par m (upT par T m) (E pre)).set x (xk (U (dnT par m (upT par T m) (E pre)) x qA) (U (dnT par m (upT par T m) (E pre)) i qA))):=ay (by
   rw[d5,lA,lS];have e:m-1-E pre=x:=Oo;show(dnT par m (upT par T m) (E pre)).set (m-1-E pre) _=_;rw[e])
  have k5:=HD (E pre) Oo x Oo;have b7:=HD (E pre) Oo _ hq;have j1:=g5 (E pre);rw[<-d5]at hq b7 |-;clear d5;generalize hV:dnT par m (upT par T m) (E pre)=V at *;clear hV;obtain⟨p0,m0,d0,p1,m1,d1,p2,m2,d2,c9⟩:=hR.cells (j:=x) Oo;obtain⟨r0,n0,f0,r1,n1,f1,r2,d3,f2,d4⟩:=hR.cells (j:=i) Oo;have a4:=ay c9;have a5:=ay d4;have e3:Hh (∀X,Bl W X->Cl 92 #[aQ #[Z p0 m0 d0,Z p1 m1 d1,Z p2 m2 d2],aQ #[Z r0 n0 f0,Z r1 n1 f1,Z r2 d3 f2]] X λe w'=>∃(q0:OA) (m0 z0:Nat) (q1:OA) (m1 z1:Nat) (q2:OA) (m2 z2:Nat) (us:LV),e=rE (aQ #[Z q0 m0 z0,Z q1 m1 z1,Z q2 m2 z2])/\TWr w' (J W.1) ⟨Z q0 m0 z0,Z q1 m1 z1,Z q2 m2 z2,us,(xk (U V x qA) (U V i qA)).e,(xk (U V x qA) (U V i qA)).x,(xk (U V x qA) (U V i qA)).k⟩/\Bl W w'):=ay λX hX=>by
   apply (VU X (a4.o X hX).2.2.2 (a5.o X hX).2.2.2 k5 b7).mono;rintro e w' ⟨q0,m0,z0,q1,m1,z1,q2,m2,z2,us,rfl,O,h2⟩;exact⟨_,_,_,_,_,_,_,_,_,us,rfl,TW.zx O hX.size,bt hX h2⟩
  have b8:Hh (∀X,Bl W X->eQ X (az (J w.1) 0)=Q (sZ g 0 (m+1) c0)/\eQ X (az g (x*3))=Q (Z p0 m0 d0)/\eQ X (az g (x*3+1))=Q (Z p1 m1 d1)/\eQ X (az g (x*3+2))=Q (Z p2 m2 d2)/\eQ X (az g (i*3))=Q (Z r0 n0 f0)/\eQ X (az g (i*3+1))=Q (Z r1 n1 f1)/\eQ X (az g (i*3+2))=Q (Z r2 d3 f2)):=ay λX hX=>⟨(hR.bx.zz hX).c0,(a4 X hX).1,(a4 X hX).2.1,(a4 X hX).2.2.1,(a5 X hX).1,(a5 X hX).2.1,(a5 X hX).2.2.1⟩;have a6:Hh (∀X,Bl W X->∀j,X.frozen? (az g j)=nF):=ay λX hX j=>by
   obtain⟨rl,O,-⟩:=hR.tb;obtain⟨cur,hc⟩:=qK (qB O.z hX) (g:=g) rfl;unfold World.frozen?;rw[hc];simp
  have k6:Hh (∀X (t:TbR),Bl W X->TWr X (J W.1) t->tvB t=xk (U V x qA) (U V i qA)->KeepsFrom (J W2.1) W (sW (sW (sW X (az g (x*3)) t.v0) (az g (x*3+1)) t.v1) (az g (x*3+2)) t.v2)/\KpG (J W2.1) g W (sW (sW (sW X (az g (x*3)) t.v0) (az g (x*3+1)) t.v1) (az g (x*3+2)) t.v2)/\II (pre++[x]) (sW (sW (sW X (az g (x*3)) t.v0) (az g (x*3+1)) t.v1) (az g (x*3+2)) t.v2)):=ay λX t hX ht he=>by
   have e8:=j4.o;obtain⟨O,h2⟩:=Z4 (g:=g) (o0:=x*3) (o1:=x*3+1) (o2:=x*3+2) (y0:=t.v0) (y1:=t.v1) (y2:=t.v2) hX Oo j6;refine⟨O,h2,?_⟩;rw[i0.o];refine⟨?_,bM j6 h2.size,k3.trans (Z4 hX i6 k3.size).2⟩;rw[k4.o,<-he];exact hR.put hX ht Oo
  have k8:J w.1≠g:=λe=>by
   obtain⟨rl,O,-⟩:=hR.tb;obtain⟨cur,a7⟩:=qK O.z (g:=g) rfl;have:=hR.bx.i;rw[e,a7]at this;simp only[oI,iL]at this;exact absurd this.2.1 Dd
  have a8:∀(W:oX) (j:Nat) (u:oV),eQ W (az (J w.1) 0)=Q (sZ g 0 (m+1) c0)->eQ (sW W (az g j) u) (az (J w.1) 0)=Q (sZ g 0 (m+1) c0):=λW j u hW=>by
   rw[eE Nq];exact hW
  have i2:(x:Int)<m+1:=Oo;have i3:(i:Int)<m+1:=Oo;obtain⟨l0,l1,l2,l3,l4,l5,l6⟩:=b8 _ (d6 _);clear c9 d4 a4 a5 hR e2 c7 hU HD g4 g5 g6 k5 b7 k4 hI HR hG h8 j4 j2 k1 e9 j1 e7 e6;generalize xk (U V x qA) (U V i qA)=ST at *;gi_wp2
  refine qBS (sS:=λX=>eQ X (az _ 0)=Q (sZ g 0 _ _)) Kl Kl (λ⟨_,_,h⟩=>h) l0 (λI=>?_);refine wTk 0 ?_;try simp only[Act.put,aO]
  refine wTk 1 ?_;try simp only[Act.put]
  refine wTk 2 ?_;try simp only[Act.put]
  refine wTk 3 ?_;try simp only[Act.put]
  refine wTk 4 ?_;try simp only[Act.put]
  refine wTk 5 ?_;try simp only[Act.put]
  refine wTk 6 ?_;try simp only[Act.put]
  refine wTk 8 ?_;try simp only[Act.put]
  refine wTk 9 ?_;try simp only[Act.put]
  refine wTk 10 ?_;try simp only[Act.put]
  refine wTk 11 ?_;try simp only[Act.put]
  refine tB (rs:=[7,12]) Kl Ss ?_
  refine AllReadyH.cons rfl (λK M=>?_) (AllReadyH.cons rfl (λK M=>?_) AllReadyH.nil)
  focus
   go_simp
   refine M.out _ _ l0 (λI=>?_)
   clear M K
   try simp only[Act.put,aO,bk,bn]
   refine tB (rs:=[12]) Kl Ss ?_
   refine AllReadyH.cons rfl (λK M=>?_) AllReadyH.nil
   go_simp
   refine M.out _ _ l0 (λI=>?_)
   clear M K
   try simp only[Act.put,aO,bk,bn]
  rotate_left;focus
   go_simp
   refine M.out _ _ l0 (λI=>?_)
   clear M K
   try simp only[Act.put,aO,bk,bn]
   refine tB (rs:=[7]) Kl Ss ?_
   refine AllReadyH.cons rfl (λK M=>?_) AllReadyH.nil
   go_simp
   refine M.out _ _ l0 (λI=>?_)
   clear M K
   try simp only[Act.put,aO,bk,bn]
  all_goals
   refine tB (rs:=[13]) Kl Ss ?_
   refine AllReadyH.cons rfl (λK M=>?_) AllReadyH.nil
   go_simp
   go_at_call 92
   apply (e3.o _ (d6 _)).mono
   rintro e w6 ⟨y0,b0,z0,y1,b1,z1,y2,b2,z2,us,rfl,e4,a3⟩
   obtain⟨s0,s1,s2,s3,-,-,-⟩:=b8 _ a3
   have g0:=a6 _ a3 (x*3)
   have g1:=a6 _ a3 (x*3+1)
   have g2:=a6 _ a3 (x*3+2)
   go_wp2_with fail
   refine M.out _ _ s0 (λI=>?_)
   clear M K
   try simp only[Act.put,aO,bk,bn]
   refine wTk 14 ?_
   try simp only[Act.put,aO]
   refine tB (rs:=[15]) Kl Ss ?_
   refine AllReadyH.cons rfl (λK M=>?_) AllReadyH.nil
   go_simp
   refine M.out _ _ (a8 _ _ _ (a8 _ _ _ (a8 _ _ _ s0))) (λI=>?_)
   clear M K
   refine wpAnyH_done Kl ?_ _
   exact k6.o w6 ⟨Z y0 b0 z0,Z y1 b1 z1,Z y2 b2 z2,us,ST.e,ST.x,ST.k⟩ a3 e4 rfl
 case done=>
  intro D W hD hI M;have b9:=hI;rw[i0.o,qC1]at b9;have hp:=KT.put (.deferred none) hD M rfl;have k7:=b9.1.kt hp f8;simp only[Exit.inBlock];exact⟨Ss,Or.inl ⟨D,_,rfl,run_takeDeferred M,.tuple #[],nK rfl _ _ _,⟨_,rfl⟩,k7.tb,k7.O,b9.2.2.trans (KpG.of (hp.O.mono j5))⟩⟩
 case stop=>
  rintro D c W _ h _;exact h.elim
def qG2:∀{l:LI},(∀x∈l,0<=x)->0<=l.sum
 |[],_=>Ss
 |y::l,h=>by
  have K:=h y cY;have M:=qG2 (l:=l) λx I=>h x (mC _ I);rw[sum_cons];omega
section
variable {k:Int} {tl:List TbV} {bs:LL} {ps hs:LI} {ws:LP} {x:Int×Int}
def qJT(k:Int)(tl:List TbV)(bs:LL)(ps hs:LI)(ws:LP)(x:Int×Int):Bool:=jQ k tl bs ps hs ws x&&oD (0<=zK tl (upR k.toNat))
def qJU(k:Int)(tl:List TbV)(bs:LL)(ps hs:LI)(ws:LP)(x:Int×Int):List TbV:=if qJT k tl bs ps hs ws x then bs.map (rdT k tl) else []
def Q9(h:jQ k tl bs ps hs ws x):qc k tl bs ps hs ws x/\∀i,i<E bs->0<=bgV tl (U bs i []):=by
 unfold jQ at h;rw[bV,aT]at h;exact⟨h.1,λi hi=>aN (h.2 _ (qz hi))⟩
def qGb:yh k tl bs ps hs ws x<0↔jQ k tl bs ps hs ws x=false:=by
 unfold yh;cases e:jQ k tl bs ps hs ws x with
 |false=>simp
 |true=>
  have M:=qG2 λy K=>by
   obtain⟨b,hb,rfl⟩:=cC.1 K;obtain⟨i,hi,rfl⟩:=gO hb;have:=((Q9 e).2) i hi;rwa[gdR hi]at this
  simp only[nI];constructor;intro I;omega;intro I;cases I
def qJV(I:whJ k tl bs ps hs ws x)(M:¬yh k tl bs ps hs ws x<0):qc k tl bs ps hs ws x/\(∀i,i<E bs->0<=bgV tl (U bs i []))/\0<=zK tl (upR k.toNat)/\vF k tl bs ps hs ws x=bs.map (bgT tl)/\qJU k tl bs ps hs ws x=bs.map (rdT k tl):=by
 have K:jQ k tl bs ps hs ws x:=by
  cases e:jQ k tl bs ps hs ws x with
  |true=>rfl
  |false=>exact absurd (qGb.2 e) M
 unfold whJ at I;rw[bV]at I;refine⟨(Q9 K).1,(Q9 K).2,aN I.2,by unfold vF;rw[K];rfl,?_⟩;unfold qJU qJT;rw[K,I.2];rfl
end
def qDw{l}{r:LI}(h:r∈srt l):r∈l:=((zQ _ l eA).2 r).1 h
def OwnT.issc{g0 g1 g2 vs ws rows f}(h:OwnT w B g0 g1 g2 vs rows ws f):ISSc w (sZ g1 0 (E rows) (E rows)) rows:=by
 refine⟨_,_,rfl,Or.inr ⟨g1,0,rfl,λj I=>⟨Z (Q (az _ 0)) _ _,?_,(h.rw.z j I).is,_,_,_,rfl,eA⟩⟩⟩;have:=h.rw.cell j I;rw[fE I]at this;rw[cU];exact this
def HalfT.itsC{tl}(h:HalfT W g (E tl) (E tl) tl):ITsC W (sZ g 0 (E tl) c) tl:=by
 refine⟨_,_,rfl,Or.inr ⟨g,0,rfl,λj I=>?_⟩⟩;have⟨g0,g1,g2,f,c0,c1,c2,ho⟩:=h.copy j I;rw[cU];exact⟨_,_,_,c0,c1,c2,ho.it,ho.issc⟩
end Go.Proofs.YtfpjpngjikdaoaaGreat
namespace Go.Proofs
open Go.Shelf Tryz YtfpjpngjikdaoaaGreat
def Tryz.sortW_ren:Ren:=⟨λ|6=>132|15=>166|14=>165|28=>208|29=>209|20=>200|21=>201|22=>202|23=>203|24=>204|25=>205|26=>206|27=>207|46=>235|47=>236|48=>237|49=>238|50=>239|57=>252|n=>n,λ|22=>138|24=>143|25=>191|3=>3|39=>226|0=>0|53=>274|55=>277|4=>4|46=>283|45=>282|50=>219|5=>5|9=>9|66=>302|70=>306|76=>315|77=>316|n=>n,λ|n=>n⟩
def Tryz.sortW:SlLaysF0.n6 prog sortW_ren:=⟨Kl,⟨f132.1,Dd,tS func132⟩,⟨f165.1,Dd,tS func165⟩,tS func166,⟨f200.1,Dd,tS func200⟩,⟨f201.1,Dd,tS func201⟩,⟨f202.1,Dd,tS func202⟩,⟨f203.1,Dd,tS func203⟩,⟨f204.1,Dd,tS func204⟩,⟨f205.1,Dd,tS func205⟩,⟨f206.1,Dd,tS func206⟩,⟨f207.1,Dd,tS func207⟩,tS func208,tS func209,⟨f235.1,Dd,tS func235⟩,tS func236,tS func237,⟨f238.1,Dd,tS func238⟩,⟨f239.1,Dd,tS func239⟩,⟨f252.1,Dd,tS func252⟩,underlying0,isAgg0,sizeOf0,zeroValue0,underlying3,isAgg3,sizeOf3,zeroValue3,underlying4,isAgg4,sizeOf4,zeroValue4,underlying5,isAgg5,sizeOf5,zeroValue5,underlying9,isAgg9,sizeOf9,zeroValue9,underlying138,isAgg138,sizeOf138,zeroValue138,underlying191,isAgg191,sizeOf191,zeroValue191,underlying226,isAgg226,sizeOf226,zeroValue226,underlying282,isAgg282,sizeOf282,zeroValue282,underlying283,isAgg283,sizeOf283,zeroValue283,underlying219,isAgg219,sizeOf219,zeroValue219,underlying274,isAgg274,sizeOf274,zeroValue274,underlying277,isAgg277,sizeOf277,zeroValue277,underlying302,isAgg302,sizeOf302,zeroValue302,underlying306,isAgg306,sizeOf306,zeroValue306,underlying315,isAgg315,sizeOf315,zeroValue315,underlying316,isAgg316,sizeOf316,zeroValue316⟩
end Go.Proofs
namespace Go.Proofs.YtfpjpngjikdaoaaGreat
open Go.Proofs.Tryz Go.RowKit Go.Shelf Go.Lib Go.Sort
variable {xs ys zs:LV}{B I n n1 n2 p:Nat}{v v' v1 v2:oV}{W W' w:oX}
abbrev WtV:=oV×LI×Int
def wc(e:WtV):LV:=[e.1,ai e.2.2]
structure WQ(W:oX)(B:Nat)(v:oV)(es:List WtV):Prop where
 z:oW W B 143 2 v (E es) (es.flatMap wc)
 l:∀e∈es,oW W B 3 1 e.1 (E e.2.1) (e.2.1.map ai)
 ap:es.Pairwise λp q=>∀g,p.1.ownBlock=Q g->q.1.ownBlock≠Q g
def WtP(w:oX)(B:Nat):Type:={ e:WtV // oW w B 3 1 e.1 (E e.2.1) (e.2.1.map ai)/\E e.2.1<=1099511627776 }
def WtP.val(p:WtP w B):WtV:=p.1
def WtP.cells(p:WtP w B):LV:=wc p.1
def WtP.M(p:WtP w B):LI:=p.1.2.1
def qC9{w B}:∀es,(∀e∈es,oW w B 3 1 e.1 (E e.2.1) (e.2.1.map ai)/\E e.2.1<=1099511627776)->∃ps:List (WtP w B),ps.map WtP.val=es
 |[],_=>⟨[],rfl⟩
 |e::r,h=>by
  have⟨ps,I⟩:=qC9 r (λx K=>h x (mC _ K));exact⟨⟨e,h e cY⟩::ps,congrArg (e::·) I⟩
def qGu(h:oW w B 3 1 v n xs):v.oneCell':=by
 rcases h.2 with ⟨rfl,I⟩|⟨g,cap,cur,rfl,_⟩ <;> rfl
def qBg{α:Type}(c2:α->LV)(I:∀x,E (c2 x)=2)(ss:List α):∀t,(ss.flatMap c2)[t]?=(ss[t / 2]?).bind λx=>(c2 x)[t % 2]?:=by
 induction ss with
 |nil=>intro t;simp
 |cons x r ih=>
  intro t;rw[dS];by_cases h:t<2;rw[aL (by rw[I];omega),sU h,rG h];rfl;obtain⟨s,rfl⟩:∃s,t=s+2:=⟨t-2,Oo⟩;rw[bQ (by rw[I];omega)];have e:s+2-E (c2 x)=s:=by rw[I];omega
  rw[e,ih s,sM,sN _ Dd];rfl
def qDA{α}[Inhabited α](c2:α->LV)(I:∀x,E (c2 x)=2)d:(flatK c2 2 d).toList=d.toList.flatMap c2:=by
 refine ext_getElem? λt=>?_;rw[qBg c2 I,dY];by_cases h:t<d.size*2
 .have K:t / 2<d.size:=Oo;have M:t % 2<E (c2 d[t / 2]):=by rw[I];omega
  have e:=get_flatK c2 2 d t h;rw[getElem!_pos _ t (by simpa using h),getElem!_pos d _ K,getElem!_pos (c2 d[t / 2]) _ M]at e;rw[dC (by simpa using h),e,dY,dC K,Option.bind_some,gE M]
 rw[dO Sy,dY,dO Oo];rfl
section
variable {α:Type} [Inhabited α] {c2:α->LV}
def qDB{blk off m K os b}(hb:b<J w.1)(I:b≠blk):(sortWorldK c2 2 w blk off m K os).1[b]?=w.1[b]?:=by
 show(((w.1.modify blk _)++os)[b]?)=_;rw[oG (by simpa using hb),nY,fF (Ne.symm I)]
def qJa{blk off m K os}{cur:AV}{e fr}(h:w.1[blk]?=Q (eZ cur e fr)):(sortWorldK c2 2 w blk off m K os).1[blk]?=Q (eZ (Sort.putCells id off (flatK c2 2 K) cur) e fr):=by
 have hb:blk<J w.1:=by
  rcases dL blk (J w.1) with I|I;exact I;rw[dO I]at h;cases h
 show(((w.1.modify blk _)++os)[blk]?)=_;rw[oG (by simpa using hb),nY,fE rfl,h];rfl
def qIY{blk off m I os}:J w.1<=(sortWorldK c2 2 w blk off m I os).1.size:=by
 show J w.1<=((w.1.modify blk _)++os).size;simp
end
def qEB{vx vy V ly kx ky}(hx:IS W vx V)(hy:IS W vy ly)(a3:E V<=1099511627776)(a4:E ly<=1099511627776):
 aF 133 #[aQ #[vx,ai kx],aQ #[vy,ai ky]] W (ai (cmpL V ly)) λw'=>∃q M,w'=grow (W.drewN q) M:=by
 obtain⟨O,I⟩:=Ex (S (S W (eZ #[vx,ai kx] 143)) (eZ #[vy,ai ky] 143));have hb:Bl W O:=by rw[I];exact(aK).alloc Ss _
 have K:=ay (yy O V (hx.zz hb) (hy.zz hb) a3 a4);have c0:eQ O (az (J W.1) 0)=Q vx:=by
  rw[I];refine xE (aK) ?_;rw[bE _ _ _ _ rfl];rfl
 have c1:eQ O (az (J W.1+1) 0)=Q vy:=by rw[I,bE _ _ _ _ Ss];rfl
 have HE:Hh (∃q M,O=grow (W.drewN q) M):=ay ⟨0,_,by rw[I,alloc_eq_grow,alloc_eq_grow,grow_grow];rfl⟩;obtain⟨a1,k1,rfl,-⟩:=hx;obtain⟨a2,k2,rfl,-⟩:=hy;generalize cmpL V ly=r,E V=n1,E ly=n2 at *;go_enter func133,ntmps133;go_upto_region 1 with fail;rw[<-I];clear I;go_wp2_with fail;apply K.o.mn;intro w' rfl;go_wp2;go_ret;exact⟨rfl,HE⟩
def Tryz.aggW w:(isAgg 143).run Tryz.prog w=.ok true w:=isAgg143 w
def Tryz.sizeW w:(Go.sizeOf 143).run Tryz.prog w=.ok 2 w:=sizeOf143 w
def qJb(es:List WtV):E (es.flatMap wc)=E es*2:=by
 induction es with
 |nil=>rfl
 |cons x r ih=>rw[dS,lA,ih,cQ];simp only[wc,cQ,length_nil];omega
def qCQ w B g{cap es}(h:WQ w B (sZ g 0 (E es) cap) es)(hM:∀e∈es,E e.2.1<=1099511627776)(hn:E es<=1000000):
 aF 132 #[sZ g 0 (E es) cap,.func (.func 133) #[] #[]] w (.tuple #[]) λw'=>∃a3,a3.Perm es/\(a3.Pairwise λa b=>¬cmpL b.2.1 a.2.1<0)/\WQ w' B (sZ g 0 (E es) cap) a3/\Below B w w':=by
 obtain⟨hB,cur,I,a7,a8,b1,b7⟩:B<=g/\∃cur,w.1[g]?=Q (eZ cur 143 (0,0))/\E es<=cap/\cap<=maxLen/\cur.size=cap*2/\cur.toList.take (E es*2)=es.flatMap wc:=by
  rcases h.z.2 with ⟨e,-⟩|⟨g',d1,cur,e,hb',hc,h1,h2,h3,h4⟩;cases e
  simp only[vI,oI,aI,true_and,iB]at e;obtain⟨rfl,rfl⟩:=e;exact⟨hb',cur,hc,h1,h2,h3,h4⟩
 have b8:g<J w.1:=by
  rcases dL g (J w.1) with h1|h1;exact h1;rw[dO h1]at I;cases I
 obtain⟨ps,a4⟩:=qC9 _ (λe he=>⟨h.l e he,hM e he⟩);have hlen:E ps=E es:=by rw[<-a4,lM]
 have inh:Inhabited (WtP w B):=⟨⟨(sn,[],0),oN _ _ _ _,Ss⟩⟩
 have a5:∀x:WtP w B,E (WtP.cells x)=2:=λ_=>rfl;have c7:(flatK WtP.cells 2 ps.toArray).toList=es.flatMap wc:=by rw[qDA WtP.cells a5];exact (by rw[<-a4,flatMap_map];rfl)
 have hH:HoldsK WtP.cells 2 w g 0 ps.toArray:=λj hj=>by
  have c8:j<E es*2:=by rw[<-hlen];simpa using hj
  have e1:cur[j]?=Q (flatK WtP.cells 2 ps.toArray)[j]! :=by
   rw[<-dY,<-cL c8,b7,<-c7,dY,getElem!_pos _ j hj,dC hj]
  refine⟨?_,?_⟩;rw[cU,eI I];exact e1;unfold World.frozen?;rw[I];simp
 have far:∀(m:Nat) (os:Array Obj) (dk:Array (WtP w B)) (p:WtP w B),oW (sortWorldK WtP.cells 2 w g 0 m dk os) B 3 1 p.1.1 (E p.1.2.1) (p.1.2.1.map ai):=λm os dk p=>
  qD p.2.1 λq hq=>qDB (p.2.1.lt q hq).2 (by
   rintro rfl;exact own_ne p.2.1 ⟨_,I⟩ Dd hq.symm)
 have hcmp:CmpLays Tryz.prog 133 #[] WtP.cells 2 (λx y=>cmpL (WtP.M x) (WtP.M y)) g 0 ps.toArray.size w:=λm os dk _ x y=>
  qEB (qN (far m _ _ x)) (qN (far m _ _ y)) x.2.2 y.2.2
 have V:=AnyQ.slices_SortFunc Tryz.sortW 2 Tryz.aggW Tryz.sizeW WtP.cells a5 (λx v hv=>by
  simp only[WtP.cells,wc,cH,not_mem_nil,or_false]at hv;rcases hv with rfl|rfl;exact qGu x.2.1;rfl) (λx y=>cmpL (WtP.M x) (WtP.M y)) (qIR WtP.M) 133 #[] g 0 cap ps.toArray w (enters_of func133 Kl rfl) hcmp hH b8 Sy
 rw[show ps.toArray.size=E es by simpa using hlen]at V;apply V.mono;rintro e w' ⟨rfl,K,m,os,⟨p1,-,p3⟩,hs,rfl⟩;have M:K.size=E es:=by rw[<-hlen];simpa using p1
 have a6:K.toList.Perm ps:=by
  have e1:K.extract 0 (E es)=K:=by rw[<-M];exact pW ..
  have e2:ps.toArray.extract 0 (E es)=ps.toArray:=by rw[<-hlen];exact pW ..
  rw[e1,e2]at p3;exact p3
 have O:(K.toList.map WtP.val).Perm es:=by rw[<-a4];exact a6.map _
 have c9:(K.toList.map WtP.val).flatMap wc=K.toList.flatMap WtP.cells:=by rw[flatMap_map];rfl
 refine⟨rfl,K.toList.map WtP.val,O,?_,⟨?_,λe he=>?_,?_⟩,?_⟩;refine pairwise_map.2 ?_;rw[pairwise_iff_getElem];intro i j hi hj d0;simp only[rY]at hi hj;have:=hs i j eC d0 Oo;rw[getElem!_pos K i Oo,getElem!_pos K j Oo]at this;rw[iW,iW];show ¬cmpL (WtP.M K[j]) (WtP.M K[i])<0;simpa[ltOf]using this
 .rw[O.length_eq];refine⟨by rw[qJb,O.length_eq],Or.inr ⟨g,cap,_,rfl,hB,qJa I,a7,a8,?_,?_⟩⟩;unfold Sort.putCells;simp[b1];rw[c9,<-qDA WtP.cells a5];refine ext_getElem? λi=>?_;by_cases hi:i<E es*2
  .rw[cL hi,dY];unfold Sort.putCells;have a9:i<(flatK WtP.cells 2 K).size:=by simp[M];omega
   rw[Array.getElem?_mapIdx,dC Oo,oY,fE ⟨eC,Oo⟩,dY,dC a9,Nat.sub_zero,getElem!_pos _ i a9];rfl
  rw[gN (by rw[bZ];omega),gN (by simp[M];omega)]
 obtain⟨p,-,rfl⟩:=cC.1 he;exact far m _ K p;exact(O.symm.pairwise_iff λ{p q} h1 g h2 h3=>h1 g h3 h2).1 h.ap;exact⟨rfl,rfl,rfl,qIY,λb hb=>qDB Oo Oo⟩
structure Pt(w:oX)(W:oX)(v1 v2:oV)(n1 n2:Nat)(xs ys:LV):Prop where
 O:Bl w W
 own1:oW W (J w.1) 24 1 v1 n1 xs
 own2:oW W (J w.1) 3 1 v2 n2 ys
def Pt.drew(h:Pt w W v1 v2 n1 n2 xs ys):Pt w W.drew v1 v2 n1 n2 xs ys:=⟨h.O.drew,h.own1,h.own2⟩
def JB{M O}(h1:oW W B M 1 v1 n1 xs)(h2:oW W B O 1 v2 n2 ys)(K:M≠O):v1.ownBlock=none\/v1.ownBlock≠v2.ownBlock:=by
 rcases h1.2 with ⟨rfl,-⟩|⟨g,cap,cur,rfl,-,hg,-⟩;exact Or.inl rfl;refine Or.inr λe=>?_;rcases h2.2 with ⟨rfl,-⟩|⟨g',V,a3,rfl,-,I,-⟩;cases e
 simp only[Value.ownBlock,oI]at e;subst e;rw[hg]at I;simp only[oI,iL]at I;exact K I.2.1
def Pt.one(h:Pt w W v1 v2 n1 n2 xs ys)(ho:oW W' (J w.1) 24 1 v' I zs)(K:W.grownBy W' v1.ownBlock):Pt w W' v' v2 I n2 zs ys:=
 ⟨h.O.grown K h.O.size (λk e=>(h.own1.lt k e).1),ho,h.own2.kept K (JB h.own2 h.own1 Dd)⟩
def Pt.two(h:Pt w W v1 v2 n1 n2 xs ys)(ho:oW W' (J w.1) 3 1 v' I zs)(K:W.grownBy W' v2.ownBlock):Pt w W' v1 v' n1 I xs zs:=
 ⟨h.O.grown K h.O.size (λk e=>(h.own2.lt k e).1),h.own1.kept K (JB h.own1 h.own2 Dd),ho⟩
def Ud w B v{es}(h:WQ w B v es)(M:∀e∈es,E e.2.1<=1099511627776)(O:E es<=1000000):
 aF 132 #[v,.func (.func 133) #[] #[]] w (.tuple #[]) λw'=>∃I,I.Perm es/\(I.Pairwise λa b=>¬cmpL b.2.1 a.2.1<0)/\WQ w' B v I/\Below B w w':=by
 rcases h.z.2 with ⟨rfl,V⟩|⟨g,cap,cur,rfl,hr⟩;obtain rfl:es=[]:=eq_nil_of_length_eq_zero V;have K:=AnyF.slices_SortFunc_none Tryz.sortW none 0 (.func (.func 133) #[] #[]) w;change Cl 132 _ _ _ at K;apply K.mn;intro w' rfl;exact⟨rfl,[],List.Perm.refl _,iO,h,eB⟩;exact qCQ w B g h M O
def Pt.al(h:Pt w W v1 v2 n1 n2 xs ys)o:Pt w (S W o) v1 v2 n1 n2 xs ys:=
 ⟨h.O.alloc h.O.size _,h.own1.alloc _,h.own2.alloc _⟩
def wus(es:List WtV):LV:=es.map λe=>e.1
def wls(es:List WtV):LL:=es.map λe=>e.2.1
def wws(es:List WtV):LI:=es.map λe=>e.2.2
def uz:WtV:=(tM,[],0)
def qGr{es}(h:p<E es):(wus es).take (p+1)=(wus es).take p++[(U es p uz).1]:=by
 rw[tA,wus,bK,gE h,gD,gE h];rfl
def qGs{es}(h:p<E es):((wws es).take (p+1)).map ai=((wws es).take p).map ai++[ai (U es p uz).2.2]:=by
 rw[tA,wws,bK,gE h,gD,gE h,mA];rfl
def qBf{es:List WtV}(h:p<E es):U es p uz∈es:=by
 rw[gD,gE h];exact gM _
def WQ.cells{a:OA}{cap es}(h:WQ W B (Z a n cap) es)(I:p<E es):∃b o,a=Q (az b o)/\eQ W (az b (o+p*2))=Q (U es p uz).1/\eQ W (az b (o+p*2+1))=Q (ai (U es p uz).2.2):=by
 have hl:=h.z.1;rcases h.z.2 with ⟨-,hz⟩|⟨g,K,cur,e,hb',O,h1,h2,h3,V⟩;omega;simp only[vI]at e;obtain⟨rfl,-,-⟩:=e;have key:∀t,t<E es*2->eQ W (az g t)=(es.flatMap wc)[t]?:=λt ht=>by
  rw[eI O,<-V,cL ht,dY]
 have M:∀x:WtV,E (wc x)=2:=λ_=>rfl;refine⟨g,0,rfl,?_,?_⟩;rw[cU,key _ Oo,qBg wc M,show p*2 / 2=p by omega,show p*2 % 2=0 by omega,gE I,gD,gE I];rfl;rw[cU,key _ Oo,qBg wc M,show(p*2+1) / 2=p by omega,show(p*2+1) % 2=1 by omega,gE I,gD,gE I];rfl
def qGt(w:oX)(B:Nat)(es:List WtV)(e:Ending)(w':oX):Prop:=∃es' vR vW,e=rE (.tuple #[vR,vW])/\es'.Perm es/\(es'.Pairwise λa b=>¬cmpL b.2.1 a.2.1<0)/\RQ w' B vR (wus es') (wls es')/\oW w' B 3 1 vW (E (wws es')) ((wws es').map ai)/\(∀i,i<E es'->ApW (U (wus es') i tM) vW)/\Below B w w'
def qIX{O w' vR vW es I}(hp:I.Perm es)(hs:I.Pairwise λa b=>¬cmpL b.2.1 a.2.1<0)(hq:WQ O B v I)(hb:Below B w O)(hB:B<=O.1.size)(V:Pt O w' vR vW (E I) (E I) ((wus I).take (E I)) (((wws I).take (E I)).map ai)):qGt w B es (rE (.tuple #[vR,vW])) w':=by
 have e1:(wus I).take (E I)=wus I:=by rw[show E I=E (wus I) by simp[wus],tL]
 have e2:(wws I).take (E I)=wws I:=by rw[show E I=E (wws I) by simp[wws],tL]
 have l1:E (wls I)=E I:=by simp[wls]
 have l2:E (wws I)=E I:=by simp[wws]
 have g1:∀i,i<E I->U (wus I) i tM=(U I i uz).1:=λi hi=>by rw[gD,wus,bK,gE hi,gD,gE hi];rfl
 have g2:∀i,i<E I->U (wls I) i []=(U I i uz).2.1:=λi hi=>by rw[gD,wls,bK,gE hi,gD,gE hi];rfl
 have M:=V.own1;have K:=V.own2;rw[e1]at M;rw[e2]at K;refine⟨I,vR,vW,rfl,hp,hs,⟨?_,by rw[l1];simp[wus],λi hi=>?_,λi j a3 hj g=>?_⟩,?_,λi hi g hg=>?_,hb.trans (V.O.mono hB)⟩;rw[l1];exact qE M hB;rw[l1]at hi;rw[g1 i hi,g2 i hi];exact qB (hq.l _ (qBf hi)) V.O;rw[l1]at hj;rw[g1 i Oo,g1 j hj];have:=pairwise_iff_getElem.1 hq.ap i j Oo hj a3 g;rw[gD,gE (by omega:i<E I),gD,gE hj];exact this;rw[l2];exact qE K hB;rw[g1 i hi]at hg;have h1:=(hq.l _ (qBf hi)).lt g hg;intro h2;have h3:=K.lt g h2;omega
def Tryz.infoSR:(Tryz.prog.info? 24).map (λi=>(i.zero,i.size,i.bytes))=Q (Q sn,1,24):=Kl
def Tryz.infoSI:(Tryz.prog.info? 3).map (λi=>(i.zero,i.size,i.bytes))=Q (Q (ai 0),1,8):=Kl
def Yf w v{es}(h:WQ w B v es)(hM:∀e∈es,E e.2.1<=1099511627776)(hn:E es<=20000)(hB:B<=J w.1):
 Cl 95 #[v] w (qGt w B es):=by
 have⟨iS,hj,c8,b8,c9⟩:=aX Tryz.infoSR;have⟨iT,hi,d0,b9,d1⟩:=aX Tryz.infoSI;have KS:=ay (Ud w B v h hM Oo);obtain⟨a,cap,rfl⟩:=qG h.z;change Hh _ at hM;clear h;have⟨n,c7⟩:=Ex (E es);change Hh _ at c7;rw[<-c7]at hn KS |-;go_enter func95,ntmps95;go_upto_region 2 with (go_at_call 132;apply KS.o.mono;rintro e K ⟨rfl,I,hp,hs,hq,hb⟩);have e1:E I=n:=by rw[c7.o];exact hp.length_eq
 have HE:Hh (∀w' vR V,Pt K w' vR V n n ((wus I).take n) (((wws I).take n).map ai)->qGt w B es (rE (.tuple #[vR,V])) w'):=ay λw' vR V hP=>qIX hp (hs.imp λh=>Int.not_lt.2 h) hq hb (bM hB hb.size) (by rw[e1];exact hP);have HQ:Hh (∀W,Bl K W->∀p,p<n->∃b o,a=Q (az b o)/\eQ W (az b (o+p*2))=Q (U I p uz).1/\aC W b (o+p*2+1) (ai (U I p uz).2.2)):=ay λW hW p hp=>by
  have⟨b,o,e,h1,h2⟩:=hq.cells (p:=p) Oo;exact⟨b,o,e,xE hW h1,xE hW h2⟩
 have e2:Hh (∀p,p<n->∃ax lx cx,(U I p uz).1=Z ax lx cx):=ay λp hp=>by
  have⟨ax,cx,e⟩:=qG (hq.l _ (qBf (p:=p) Oo));exact⟨ax,_,cx,e⟩
 have e3:Hh (∀p,p<n->(wus I).take (p+1)=(wus I).take p++[(U I p uz).1]):=ay λp hp=>qGr Oo;have e4:Hh (∀p,p<n->((wws I).take (p+1)).map ai=((wws I).take p).map ai++[ai (U I p uz).2.2]):=ay λp hp=>qGs Oo;clear hp hs hq hb KS hM c7 hB;have m1:∀W:oX,Sem.run Tryz.prog (Instr.makeSlice 23 (ai 0) (ai (n:Int))) W=.ok (sZ (J W.1) 0 0 n) (aJ W (madeCells sn.cells (n*1)) 24):=λW=>by
  have:=run_makeSlice W 23 24 _ _ underlying23 hj c8 .i64 .i64 0 n Oo Oo (by rw[b8];omega) (by rw[c9];omega) Oo;rw[b8]at this;simpa using this
 have m2:∀W:oX,Sem.run Tryz.prog (Instr.makeSlice 24 (ai 0) (ai (n:Int))) W=.ok (sZ (J W.1) 0 0 n) (aJ W (madeCells (ai 0).cells (n*1)) 3):=λW=>by
  have:=run_makeSlice W 24 3 _ _ underlying24 hi d0 .i64 .i64 0 n Oo Oo (by rw[b9];omega) (by rw[d1];omega) Oo;rw[b9]at this;simpa using this
 have s1:(madeCells sn.cells (n*1)).size=n*1:=size_madeCells _ _;have s2:(madeCells (ai 0).cells (n*1)).size=n*1:=size_madeCells _ _;generalize madeCells sn.cells (n*1)=M1,madeCells (ai 0).cells (n*1)=M2 at *;have a6:n<=maxLen:=Um;have HA:Hh (Pt K ((S (aJ K M1 24) (eZ M2 3))) (sZ K.1.size 0 0 n) (sZ (K.1.size+1) 0 0 n) 0 0 [] []):=ay ⟨(aK).alloc Ss _,(oM K _ n eA a6 s1).alloc _,by
  have:=oM (base:=K.1.size) (e:=3) (aJ K M1 24) _ n Ss a6 s2;rwa[aM]at this⟩
 have d2:Hh (Pt K ((S (aJ K M2 3) (eZ M1 24))) (sZ (K.1.size+1) 0 0 n) (sZ K.1.size 0 0 n) 0 0 [] []):=ay ⟨(aK).alloc Ss _,by
  have:=oM (base:=K.1.size) (e:=24) (K.alloc (eZ M2 3)) _ n Ss a6 s1;rwa[aM]at this,(oM K _ n eA a6 s2).alloc _⟩
 go_cut [4,5] from 10 to 16 (λx y wx=>∃vR V,vR=x/\V=y/\Hh (Pt K wx vR V 0 0 [] []))
 case first=>
  go_region_law (fail)
  all_goals
   go_wp2
   go_meet
   first
    |exact⟨_,_,rfl,rfl,ay HA.o.drew⟩
    |exact⟨_,_,rfl,rfl,ay d2.o.drew⟩
 case rest=>
  obtain⟨e8,e9,rfl,rfl,d3⟩:=hcut;clear HA d2 m1 m2 s1 s2;go_wp2;go_loopw [4,5,18] (λx y t wr=>∃(p:Nat) (vR V:oV),p<=n/\t=ai p/\vR=x/\V=y/\Hh (Pt K wr vR V p p ((wus I).take p) (((wws I).take p).map ai))) (λ_ _ t _=>n-(intOf t).toNat);exact⟨0,_,_,eC,rfl,rfl,rfl,d3⟩;clear d3;obtain⟨p,vR,V,f7,rfl,rfl,rfl,HP⟩:=hrel;by_cases a7:p<n
  .have i1:=aV a7;have⟨b,o,ea,g0,g1⟩:=HQ _ HP.o.O p a7;subst ea;have⟨ax,lx,cx,ex⟩:=e2 p a7;have b1:=ay (e3 p a7);have d4:=ay (e4 p a7);rw[ex]at g0 b1;generalize (U I p uz).2.2=kx at *;have hsz:=HP.o.O.size;go_upto_region 6 with fail;have⟨W5,O⟩:=Ex (S wr (eZ #[Z ax lx cx,ai kx] 143));have t0:eQ W5 (az (J wr.1) 0)=Q (Z ax lx cx):=by rw[O,eH rfl];rfl
   have t1:eQ W5 (az (J wr.1) 1)=Q (ai kx):=by rw[O,eH rfl];rfl
   have d5:Hh (∃cur,W5.1[J wr.1]?=Q (eZ cur 143 (0,0))):=ay ⟨_,by rw[O];exact eO⟩;have hs5:K.1.size<=J W5.1:=by rw[O];simp;omega
   have b7:J wr.1<J W5.1:=by rw[O];simp
   have a8:Hh (Pt K W5 vR V p p ((wus I).take p) (((wws I).take p).map ai)):=ay (by rw[O];exact HP.o.al _);rw[<-O];clear O HP g0 g1;generalize J wr.1=bx at *;go_upto_region 7 with (at_builtin;refine apL rfl rfl underlying23 Tryz.infoSR (a8.o.own1.alloc _) rfl rfl (qH _ _ _) Sy ?_;intro g8 d6 w8 a4 M d7 d8);have a9:Hh (Pt K w8 (sZ g8 0 (p+1) d6) V (p+1) p ((wus I).take (p+1)) (((wws I).take p).map ai)):=ay (by rw[b1.o];exact(a8.o.al _).one a4 M);have e5:eQ w8 (az bx 1)=Q (ai kx):=(bF (zD M b7 (own_ne a8.o.own1 d5.o Dd))).trans t1;have f8:=a9.o.O.size;clear a4 M d7 d8 t0 t1 a8 d5 hs5 b7;go_wp2_with (at_builtin;refine apL rfl rfl underlying24 Tryz.infoSI (a9.o.own2.alloc _) rfl rfl (qH _ _ _) Sy ?_;intro g9 e6 w9 a5 a3 d9 e0);have e7:Hh (Pt K w9 (sZ g8 0 (p+1) d6) (sZ g9 0 (p+1) e6) (p+1) (p+1) ((wus I).take (p+1)) (((wws I).take (p+1)).map ai)):=ay (by rw[d4.o];exact(a9.o.al _).two a5 a3);clear a5 a3 d9 e0 e5 a9;go_wp2;go_roundw;exact⟨p+1,_,_,Oo,Gg,rfl,rfl,e7⟩;exact Im
  obtain rfl:p=n:=Oo;have i1:=aY p;have HF:=ay (HE _ _ V HP);clear HP HE HQ;go_wp2_with fail;refine aU (v:=.tuple #[vR,V]) (by simp[results,results95,go_sem]) rfl ?_;exact HF
def WF(W:oX)(B:Nat)(v:oV)(l:List (LI×Int)):Prop:=∃es:List WtV,WQ W B v es/\es.map (λe=>e.2)=l
def WF.zz{l}(h:WF W B v l)(hb:Bl W W'):WF W' B v l:=by
 have⟨es,hq,e⟩:=h;exact⟨es,⟨qB hq.z hb,λx I=>qB (hq.l x I) hb,hq.ap⟩,e⟩
def WF.M{W0 l}(h:WF W0 B v l)(hB:B<=J W0.1):∃xs,oW W0 B 143 2 v (E l) xs/\∀W u row wt o w3 v',Bl W0 W->oW W (J W0.1) 3 1 u (E row) (row.map ai)->(S W o).grownBy w3 v.ownBlock->oW w3 B 143 2 v' (E l+1) (xs++[u,ai wt])->WF w3 B v' (l++[(row,wt)]):=by
 obtain⟨es,hq,rfl⟩:=h;rw[lM];refine⟨es.flatMap wc,hq.z,λW u row wt o w3 v' hb V hg I=>?_⟩;have hint:∀{x:oV} {k B':Nat} {xs:LV},oW W B' 3 1 x k xs->oW w3 B' 3 1 x k xs:=λK=>
  qD K λg M=>zD hg (K.lt g M).2 (own_ne (qB hq.z hb) (qK K M) Dd)
 refine⟨es++[(u,row,wt)],⟨?_,λe O=>?_,?_⟩,by rw[mA];rfl⟩;rw[lA,dM];exact I
 .rcases cF.1 O with O|O;exact hint (qB (hq.l e O) hb);rw[cI.1 O];exact qE (hint V) hB
 refine pairwise_append.2 ⟨hq.ap,pairwise_singleton _ _,λx K y hy g h1 h2=>?_⟩;rw[cI.1 hy]at h2;have h3:=((hq.l x K).lt g h1).2;have h4:=(V.lt g h2).1;omega
def qEE{x y t}:∀j u,[x,y][j]?=Q u->(S w (eZ #[x,y] t)).cell? (((az (J w.1) 0):Addr).add j)=Q u:=by
 intro j u I;have e:((az (J w.1) 0):Addr).add j=(az (J w.1) j):=by unfold Addr.add;by_cases K:j=0 <;> simp[K]
 rw[e,eH rfl];match j,I with
 |0,I=>simpa using I
 |1,I=>simpa using I
 |j+2,I=>simp at I
def Tryz.infoWt:(Tryz.prog.info? 143).map (λi=>(i.zero,i.size,i.bytes))=Q (Q (aQ #[sn,ai 0]),2,32):=Kl
end Go.Proofs.YtfpjpngjikdaoaaGreat
namespace Go.Proofs.YtfpjpngjikdaoaaGreat
open Go.Proofs.Tryz Go.RowKit
def wtB(x:Int):Bool:=oD (-1000000<=x)&&oD (x<=1000000)
def fT(w:oX)(v:oV)(l:LI)(h:IS w v l)(hl:E l<=1099511627776):
 Cl 50 #[v] w λe w'=>e=rE (oB (l.all wtB))/\w'=w:=by
 obtain⟨a,cap,rfl,hc⟩:=h;obtain⟨n,hn⟩:=Ex (E l);obtain⟨res,a3⟩:=Ex (l.all wtB);rw[<-a3];have HR:=ay a3;rw[<-hn]at hc hl ⊢;have HC:=ay hc;have HN:=ay hn;clear hc hn a3;go_enter func50,ntmps50;go_wp2;go_loop [7] (λt=>∃j:Nat,j<=n/\t=ai j/\Hh (∀i,i<j->wtB (U l i 0))) (λt=>n-(intOf t).toNat);exact⟨0,nZ _,rfl,ay (λi hi=>Oo)⟩;obtain⟨j,hj,rfl,a5⟩:=hrel;by_cases a6:j<n
 ·have i1:(j:Int)<n:=Oo;rcases HC.o with h0|⟨b,o,rfl,a4⟩;omega;have c1:eQ w (az b (o+j))=Q (ai (U l j 0)):=a4 j a6;have fin:wtB (U l j 0)=nF->Hh (res=nF):=λe=>ay (HR.o.trans (xY wtB 0 l j (by rw[<-HN.o];exact a6) e));have nxt:wtB (U l j 0)->Hh (∀i,i<j+1->wtB (U l i 0)):=λe i hi=>by
   by_cases e2:i=j;rw[e2];exact e;exact a5.o i Oo
  clear a4 a5;generalize U l j 0=x at *;unfold wtB at nxt fin;by_cases h1:x < -1000000
  ·have hf:=fin (by rw[fC Oo];rfl);clear fin nxt;go_wp2;go_ret;exact⟨qJ (by rw[hf.o]),rfl⟩
  by_cases h2:1000000<x
  ·have hf:=fin (by rw[fC (show ¬x<=1000000 by omega)];simp);clear fin nxt;go_wp2;go_ret;exact⟨qJ (by rw[hf.o]),rfl⟩
  have hf:=nxt (by rw[fD Oo,fD Oo];rfl);clear fin nxt;go_wp2;go_round;exact⟨j+1,Oo,Gg,hf⟩;exact Im
 obtain rfl:j=n:=Oo;have hf:Hh (res):=ay (HR.o.trans (ug wtB 0 l (λi hi=>a5.o i (by rw[HN.o];exact hi))));have i1:¬((j:Int)<j):=Oo;clear a5;go_wp2;go_ret;exact⟨qJ (by rw[hf.o]),rfl⟩
open Go.Maps
def gB(w:oX)(x lo hi:Int):Cl 27 #[ai x,ai lo,ai hi] w λe w'=>e=rE (oB (oD (lo<=x)&&oD (x<=hi)))/\w'=w:=by
 by_cases h1:lo<=x
 ·by_cases h2:x<=hi;rw[fD h1,fD h2];exact zP (x:=x) (lo:=lo) (hi:=hi) (w:=w) h1 h2;rw[fD h1,fC h2];exact vM (x:=x) (lo:=lo) (hi:=hi) (w:=w) h1 Oo
 rw[fC h1];exact vL (x:=x) (lo:=lo) (hi:=hi) (w:=w) Oo
