import Derived.Deep.RegionHeldLaw
import Derived.Test.YtfpjpngjikdaoaaGreatAg16
set_option maxHeartbeats 40000000
set_option maxRecDepth 1000000
set_option linter.defProp false
open List Go.World
open List renaming length->E,getD->U
open Array renaming size->J
open Go.World renaming alloc->S,setCell->sW,cell?->eQ
open Go.Value renaming slice->Z,agg->aQ
open Go.Obj renaming cells->eZ
open Go.Ending renaming returned->rE
open Option renaming some->Q
open Go renaming World->oX,Value->oV
namespace Go.Proofs.YtfpjpngjikdaoaaGreat
open Go.Proofs.Tryz Go.RowKit Go.Maps
def qAE{r:Nat}(hr:X4 r)(w0 w:oX)(sS:Nat->Prop)(lo hi pm be:Nat)(v0 v1 v2 vr vb vsh vo:oV)(b:LI)(rows:LL)(ws:LI)(ts:List TbV)(cs:List Ch)(sh ow:LI)(D0:DataW Unit)(fnd:Nat->LI->LI->Option Int)(wt:LI->TbV->Int)
 (h:Ga r w0 w sS lo hi pm be v0 v1 v2 vr vb vsh vo b rows ws ts cs sh ow) (h0:Gs r w w sS lo pm be vsh vo vo ow [] (λ_ _=>none) [] D0) (l7:E ow<=1000/\∀y∈ow,0<=y/\y<6)
 (l8:∀z∈rows,∀t∈ts,∀M,RwM t.e t.x t.k (E t.x) M->M (xM t.e (xx b z))=Q (wt (xx b z) t))
 (l9:∀z∈rows,∀h,fnd 0 (xx b z) h=X3 (λ_=>none) (xM ow (xx b z)) (K5 r (ts.map (wt (xx b z)))) h)
 (m4:∀z∈rows,∀q,q<E cs->∀M,JoM r (U cs q zF).hd (fnd q (xx b z)) ((U cs q zF).iQ (xM (U cs q zF).sh (xx b z))) (λ_ _=>True) M->∀h,fnd (q+1) (xx b z) h=M h)
 (m5:∀z∈rows,∀q,q<E cs->∃y x,(U cs q zF).iQ (xM (U cs q zF).sh (xx b z)) y=Q x)
 (m6:∀z∈rows,∀q,q<=E cs->∀ks:LL,ks.Nodup->(∀a∈ks,∃x,fnd q (xx b z) a=Q x)->E ks<=500000)
 (g5:∀q,q<E cs->∀(s:LI) (ks:LL),ks.Nodup->(∀a∈ks,∃x,(U cs q zF).iQ s a=Q x)->E ks<=500000)
 (m7:∀i,i<=E rows->∀(s:LI) (ks:LL),ks.Nodup->(∀a∈ks,∃x,bl r b sh rows (fnd (E cs)) i s a=Q x)->E ks<=500000):
 Cl 97 #[pZ pm 0,aQ #[v0,v1,v2],vr,vb] w λe w'=>e=rE (.tuple #[])/\∃v es,E es<=E rows/\∃D,Gs r w w' sS lo pm be vsh vo v ow (hds cs (E cs)) (bl r b sh rows (fnd (E cs)) (E rows)) es D:=by
 obtain⟨i0,r5,r6,r7,r8⟩:=aX Tryz.infoInt;have x7:Tryz.prog.follows .mixedOrders:=Kl;have z4:=@run_makeMap Tryz.prog;have HG:=ay h;obtain⟨a0,k0,rfl,-⟩:=h.tab.e;obtain⟨a1,k1,rfl,r9⟩:=h.tab.x;obtain⟨a2,k2,rfl,-⟩:=h.tab.k;obtain⟨ar,kr,rfl,-⟩:=h.rat;obtain⟨ab,kb,rfl,-⟩:=id h.msg;obtain⟨ao,ko,rfl,-⟩:=h0.hd.is;obtain⟨ah,kh,rfl,-⟩:=h.shr w (Kg.refl sS w);obtain⟨n,hn⟩:=Ex (E cs);have m8:=h.few;rw[<-hn]at m8;obtain⟨W1,h8⟩:=Ex (S w (eZ #[Z a0 (E b) k0,Z a1 (E rows) k1,Z a2 (E ws) k2] 58));have e4:Bl w W1:=by rw[h8];exact(bJ _ _).alloc (nR _) _
 have m9:TX W1 (J w.1) (Z a0 (E b) k0) (Z a1 (E rows) k1) (Z a2 (E ws) k2):=by rw[h8];exact TX.zw w _ _ _
 have HN:=ay hn;have k7:=ay l7;have s8:=ay m5;have n3:=ay l8;have n4:=ay l9;have n5:=ay m4;have s9:=ay m6;have t2:=ay g5;have t3:=ay m7;have k8:Hh (Gs r w W1 sS lo pm be (Z ah (E sh) kh) (Z ao (E ow) ko) (Z ao (E ow) ko) ow (hds cs 0) (λ_ _=>none) [] D0/\TX W1 (J w.1) (Z a0 (E b) k0) (Z a1 (E rows) k1) (Z a2 (E ws) k2)):=ay ⟨⟨(Kg.refl sS w).P e4,h0.mb.A (e4.block _ h0.mb.cells.2.2.2.2.2),⟨qB h0.hd.z e4,h0.hd.is.zz e4,h0.hd.i,h0.hd.form.imp id λ⟨g,c,e,hlt,hp⟩=>⟨g,c,e,bN hlt e4.size,hp⟩⟩,h0.en.O e4⟩,m9⟩;obtain⟨m0,m1,m2,m3,-⟩:=k8.1.mb.cells;rw[hn.symm];clear h h0 r9 hn e4 m9 l7 m5 m6 g5 m7 l8 l9 m4;go_enter func97,ntmps97;go_upto_region 1 with fail;rw[<-h8];clear h8;go_wp2;go_loopw [23] (λt wr=>∃(j:Nat) (v:oV),j<=n/\t=ai j/\E (hds cs j)<=j*1000/\Hh (Gs r w wr sS lo pm be (Z ah (E sh) kh) (Z ao (E ow) ko) v ow (hds cs j) (λ_ _=>none) [] D0/\TX wr (J w.1) (Z a0 (E b) k0) (Z a1 (E rows) k1) (Z a2 (E ws) k2))) (mZ n);exact⟨0,_,nZ _,rfl,nR _,k8⟩;clear k8 m0 m1 m2 m3;obtain⟨j,v,hj,rfl,z5,HX⟩:=hrel;by_cases t4:j<n
 ·have i1:(j:Int)<n:=Oo;have l0:j<E cs:=by rw[<-HN.o];exact t4
  obtain⟨t5,t6,eb,g6⟩:=HG.o.msgs HX.1.kg;simp only[vI]at eb;obtain⟨rfl,-,rfl⟩:=eb;rcases g6 with h0|⟨b1,o1,rfl,t7,h9⟩;omega;obtain⟨c1,n1,q1,c2,n2,q2,bj,g0,g1,g2,g3,g5⟩:=h9 j l0;unfold rgV at g0;go_upto_region 5 with fail;have g7:Bl wr (S wr (eZ #[.iface (rgT r) (aQ #[]),Z c1 n1 q1,Z c2 n2 q2,.map (Q bj)] 149)):=(bJ _ _).alloc (nR _) _;have t8:eQ (S wr (eZ #[.iface (rgT r) (aQ #[]),Z c1 n1 q1,Z c2 n2 q2,.map (Q bj)] 149)) (az (J wr.1) 2)=Q (Z c2 n2 q2):=by rw[bE _ _ _ _ rfl];rfl
  have y3:J (S wr (eZ #[.iface (rgT r) (aQ #[]),Z c1 n1 q1,Z c2 n2 q2,.map (Q bj)] 149)).1=J wr.1+1:=Ss;generalize (S wr (eZ #[.iface (rgT r) (aQ #[]),Z c1 n1 q1,Z c2 n2 q2,.map (Q bj)] 149))=W2 at *;have e5:Bl wr W2.drew:=g7.drew;obtain⟨x1,x2⟩:=HX.o;have t9:=x1.mb.cells.2.2.2.2.2;have d4:MgB r W2.drew pm be (Z ah (E sh) kh) v:=x1.mb.A (e5.block _ t9);have b9:=x1.hd.A e5.size (λk hk _=>e5.block k hk) (xn x1.hd.z x1.mb);have i4:=x1.kg.P e5;have i5:=x1.en.O e5;have i6:=x2.zz e5;have v6:=(g5.hd.zz (HG.o.b0 i4)).part;obtain⟨bp,pp,cp,g8⟩:=v6;have z7:=g5.ls.2;have v7:lo<=W2.drew.1.size:=by have:=HG.o.zone;have:=(HG.o.inS _ HG.o.spm).1;have:=e5.size;omega
  have hold:E (ow++hds cs j)<=21000:=by rw[lA];have:=k7.1;omega
  have m2:eQ W2 (az pm 2)=Q v:=d4.cells.2.2.1;generalize J wr.1=z1 at *;go_region_law (first
   |(refine YD W2.drew Fl _ _ _ Fl lo 3 i0 (ai 0) 1 8 underlying24 r5 r6 r7 r8 rfl Dd v (E (ow++hds cs j)) ((ow++hds cs j).map ai) Fl b9.z bp pp (E (U cs j zF).hd) cp (Z c2 n2 q2) ((U cs j zF).hd.map ai) Fl g8 (λu hu=>by obtain⟨y,-,rfl⟩:=cC.1 hu;rfl) Um Oo v7 ?_;intro v3 w3 i7 g4 c7 n6;obtain⟨a3,k3,e3⟩:=qG i7;subst e3;(generalize n7:E (ow++hds cs j)+E (U cs j zF).hd=N3 at *);have v8:=ay n7;clear n7;have d0:=d4.A (g4.block _ d4.cells.2.2.2.2.2 (xn b9.z d4));have m3:=d0.cells.2.2.1;have v9:=d0.cells.2.2.2.2.1)
   |fail)
  all_goals
   have n8:=b9.P (by rw[v8.o];exact i7) g4 c7 n6 i4.size
   have j1:=d0.set (Z a3 N3 k3)
   have n9:Q pm≠(Value.slice a3 N3 k3).ownBlock:=xn i7 d0
   have hE:Hh (Gs r w (sW w3 (az pm 2) (Z a3 N3 k3)) sS lo pm be (Z ah (E sh) kh) (Z ao (E ow) ko) (Z a3 N3 k3) ow (hds cs (j+1)) (λ_ _=>none) [] D0/\TX (sW w3 (az pm 2) (Z a3 N3 k3)) (J w.1) (Z a0 (E b) k0) (Z a1 (E rows) k1) (Z a2 (E ws) k2)):=ay (by
    have hS:=HG.o.inS _ HG.o.spm;have w5:=HG.o.zone;refine⟨⟨(i4.grown g4 b9.i).set HG.o.spm _,j1,?_,?_⟩,?_⟩;rw[Qq l0];exact n8.A (by rw[size_setCell];exact nR _) (λk _ hk=>bD _ _ _ _ (by exact hk)) n9;have e1:=i5.A (g4.block _ i5.map.lt (QM b9.z i5.map)) (λe he=>by cases he);exact e1.A (bD _ _ _ _ (qDX d0 e1.map)) (λe he=>by cases he);refine⟨(bD _ _ _ _ (by show J w.1≠pm;omega)).trans ((g4.block _ i6.lt (Xq b9.z i6.zy Dd)).trans i6.i)⟩)
   have o4:E (hds cs (j+1))<=(j+1)*1000:=by rw[Qq l0,lA];omega
   clear n8 j1 n9 i7 g4 c7 n6 d0 m3 v9 g8 b9 i4 i5 i6 d4 m2 t8
   go_wp2
   go_roundw;exact⟨j+1,_,Oo,Gg,o4,hE⟩;exact Im
 obtain rfl:j=n:=Oo;have i1:¬((j:Int)<j):=Oo;have t1:=HX.2.c1;have o5:Hh (Gs r w wr sS lo pm be (Z ah (E sh) kh) (Z ao (E ow) ko) v ow (hds cs j) (bl r b sh rows (fnd (E cs)) 0) [] D0/\TX wr (J w.1) (Z a0 (E b) k0) (Z a1 (E rows) k1) (Z a2 (E ws) k2)):=ay ⟨⟨HX.1.kg,HX.1.mb,HX.1.hd,⟨HX.1.en.map,HX.1.en.ref,λe he=>(by cases he),HX.1.en.ap,λe he=>(by cases he),λs a x h=>by cases h⟩⟩,HX.2⟩;clear HX;go_wp2;clear t1;go_loopw [41] (λt wr=>∃(i:Nat) (es:List (LI×Nat)) (D:DataW Unit),i<=E rows/\t=ai i/\E es<=i/\Hh (Gs r w wr sS lo pm be (Z ah (E sh) kh) (Z ao (E ow) ko) v ow (hds cs j) (bl r b sh rows (fnd (E cs)) i) es D/\TX wr (J w.1) (Z a0 (E b) k0) (Z a1 (E rows) k1) (Z a2 (E ws) k2))) (mZ (E rows));exact⟨0,[],D0,nZ _,rfl,nR _,o5⟩;clear o5;obtain⟨i,es,D,o6,rfl,z8,HX⟩:=hrel;by_cases d3:i<E rows
 ·have i2:(i:Int)<(E rows:Int):=Oo;obtain⟨x1,x2⟩:=HX.o;have l1:=HG.o.b0 x1.kg;obtain⟨a9,k9,e9,f9⟩:=HG.o.tab.x.zz l1;simp only[vI]at e9;obtain⟨rfl,-,rfl⟩:=e9;rcases f9 with h0|⟨b3,o3,rfl,f9⟩;omega;obtain⟨u,d1,hu⟩:=f9 i d3;obtain⟨au,ku,rfl,-⟩:=id hu;have l2:=qz (d:=[]) d3;obtain⟨g9,y4,o7⟩:=qL HG.o.ok;obtain⟨h6,w7⟩:=V7 g9;have KA:Hh (Cl 135 #[Z a0 (E b) k0,Z au (E (U rows i [])) ku] wr λe w'=>e=rE (asV (xS b λi'=>vlF b (U rows i []) i'))/\Bl wr w'):=ay (QW _ b (HG.o.tab.e.zz l1) hu (o7 _ l2) w7 h6 (xK g9));have b7:Ok6 (xx b (U rows i [])):=V9 (HG.o.wf _ l2);have t0:=x2.c0;clear f9 hu o7 h6 g9 l1 l2;generalize hfa:(xS b λi'=>vlF b (U rows i []) i')=fa at *;generalize E (U rows i [])=lr at *;go_upto_region 11 with (first|(go_at_call 135;apply KA.o.mono;rintro e w2 ⟨rfl,o8⟩;unfold asV)|fail);have c7:Bl wr (S w2 (eZ #[ai (fa 0),ai (fa 1),ai (fa 2),ai (fa 3),ai (fa 4),ai (fa 5)] 140)):=bt o8 (aK);have o9:=six (w:=w2) fa 140;generalize (S w2 (eZ #[ai (fa 0),ai (fa 1),ai (fa 2),ai (fa 3),ai (fa 4),ai (fa 5)] 140))=W3 at *;generalize J w2.1=za at *;have b9:=x1.hd.A c7.size (λk hk _=>c7.block k hk) (xn x1.hd.z x1.mb);have p1:Gs r w W3 sS lo pm be (Z ah (E sh) kh) (Z ao (E ow) ko) v ow (hds cs j) (bl r b sh rows (fnd (E cs)) i) es D:=⟨x1.kg.P c7,x1.mb.A (c7.block _ x1.mb.cells.2.2.2.2.2),b9,x1.en.O c7⟩;have a5:=ay (And.intro p1 (x2.zz c7));have d5:=ay o9;have HZ:Hh (asV fa=asL (xx b (U rows i []))):=ay (by rw[qHe,hfa]);have h3:Hh (∀l,asV (xS l fa)=asL (xM l (xx b (U rows i [])))):=ay λl=>by
   rw[qHf];unfold asV xS xR;rw[<-hfa];rfl
  have w8:Hh (∀q,q<E cs->∃y x,(U cs q zF).iQ (xM (U cs q zF).sh (xx b (U rows i []))) y=Q x):=ay (s8 _ (qz (d:=[]) d3));have p2:Hh (∀q,q<=E cs->∀ks:LL,ks.Nodup->(∀a∈ks,∃x,fnd q (xx b (U rows i [])) a=Q x)->E ks<=500000):=ay (s9 _ (qz (d:=[]) d3));have w9:Hh (bl r b sh rows (fnd (E cs)) (i+1)=cg r (bl r b sh rows (fnd (E cs)) i) (xM sh (xx b (U rows i []))) (fnd (E cs) (xx b (U rows i [])))):=ay rfl;have p3:Hh (∀t∈ts,∀M,RwM t.e t.x t.k (E t.x) M->M (xM t.e (xx b (U rows i [])))=Q (wt (xx b (U rows i [])) t)):=ay (n3 _ (qz (d:=[]) d3));have j2:Hh (∀h,fnd 0 (xx b (U rows i [])) h=X3 (λ_=>none) (xM ow (xx b (U rows i []))) (K5 r (ts.map (wt (xx b (U rows i []))))) h):=ay (n4 _ (qz (d:=[]) d3));have j3:Hh (∀q,q<E cs->∀M,JoM r (U cs q zF).hd (fnd q (xx b (U rows i []))) ((U cs q zF).iQ (xM (U cs q zF).sh (xx b (U rows i [])))) (λ_ _=>True) M->∀h,fnd (q+1) (xx b (U rows i [])) h=M h):=ay (n5 _ (qz (d:=[]) d3));clear x1 x2 c7 o9 b9 p1 HX t0 o8 KA d1;generalize xx b (U rows i [])=ka at *;go_cut [14] from 45 (λu wc=>∃(bm:Nat) (Dm:DataW Unit),u=.map (Q bm)/\Hh (Bl W3 wc/\J W3.1<=bm/\mQ wc bm [xM ow ka] Dm (fnd 0 ka)))
  case first=>
   obtain⟨zr,l3⟩:=Ex (K5 r (ts.map (wt ka)));have b8:keyOf Tryz.prog 140 (asV (xS ow fa))=Q (kla (xM ow ka)):=by rw[h3.o];exact yP (uq b7)
   have KO:Hh (∀W,Bl W3 W->Cl 136 #[aQ #[ai (fa 0),ai (fa 1),ai (fa 2),ai (fa 3),ai (fa 4),ai (fa 5)],Z ao (E ow) ko] W λe w'=>e=rE (asV (xS ow fa))/\Bl W w'):=ay λW hW=>jq W _ _ (a5.1.hd.is.zz hW) k7.1 k7.2;have KR:Hh (∀W,Bl W3 W->Cl 137 #[pZ pm 0,aQ #[ai (fa 0),ai (fa 1),ai (fa 2),ai (fa 3),ai (fa 4),ai (fa 5)],Z ar (E ts) kr] W λe w'=>e=rE (ai zr)/\Bl W w'):=ay λW hW=>by
    have hk:=a5.1.kg.P hW;have:=qDb hr _ W _ _ _ _ _ _ (qF hW a5.1.mb.cells.1) b7 (HG.o.b0 hk) (HG.o.rats hk) HG.o.nr HG.o.tv p3;rwa[<-HZ.o,<-l3]at this
   have HS:Hh (∀W,Bl W3 W->eQ W (az za 0)=Q (ai (fa 0))/\eQ W (az za 1)=Q (ai (fa 1))/\eQ W (az za 2)=Q (ai (fa 2))/\eQ W (az za 3)=Q (ai (fa 3))/\eQ W (az za 4)=Q (ai (fa 4))/\eQ W (az za 5)=Q (ai (fa 5))):=ay λW hW=>⟨(d5.o.zz Oo hW).cell 0 Oo,(d5.o.zz Oo hW).cell 1 Oo,(d5.o.zz Oo hW).cell 2 Oo,(d5.o.zz Oo hW).cell 3 Oo,(d5.o.zz Oo hW).cell 4 Oo,(d5.o.zz Oo hW).cell 5 Oo⟩;have b0:Bl W3 W3.drew:=(bJ _ _).drew;have p4:Hh (X3 (λ_=>none) (xM ow ka) zr=fnd 0 ka):=ay (by rw[l3];exact(funext j2).symm);clear a5 HG p3 j2 j3 l3 n3 n4 n5;go_region_held_law (λW=>eQ W (az za 0)=Q (ai (fa 0))/\eQ W (az za 1)=Q (ai (fa 1))/\eQ W (az za 2)=Q (ai (fa 2))/\eQ W (az za 3)=Q (ai (fa 3))/\eQ W (az za 4)=Q (ai (fa 4))/\eQ W (az za 5)=Q (ai (fa 5)))
    (first
     |(refine HS _ HE.1;done)
     |(refine HS.o _ ?_;(repeat(first|(with_reducible exact bJ _ _)|(with_reducible exact bW)|(with_reducible exact bX)|(with_reducible refine qT ?_)|(with_reducible refine qC ?_ _)));done)
     |fail)
    (first
     |(go_simp;go_at_call 136;(with_reducible refine(KO.o _ (by(repeat(first|(with_reducible exact bJ _ _)|(with_reducible exact bW)|(with_reducible refine qT ?_)|(with_reducible refine qC ?_ _))))).mono ?_);rintro e c8 ⟨rfl,d2⟩;(first|have cW:Below (J (S W3 (.map #[] 0)).1) (S W3 (.map #[] 0)) c8:=Qb d2|skip);have bW:Bl W3 c8:=bt (by(repeat(first|(with_reducible exact bJ _ _)|(with_reducible exact bW)|(with_reducible refine qT ?_)|(with_reducible refine qC ?_ _)))) d2)
     |(go_simp;go_at_call 137;(with_reducible refine(KR.o _ (by(repeat(first|(with_reducible exact bJ _ _)|(with_reducible exact bW)|(with_reducible refine qT ?_)|(with_reducible refine qC ?_ _))))).mono ?_);rintro e c9 ⟨rfl,a7⟩;have bX:Bl W3 c9:=bt (by(repeat(first|(with_reducible exact bJ _ _)|(with_reducible exact bW)|(with_reducible refine qT ?_)|(with_reducible refine qC ?_ _)))) a7;(first
        |(have cX:=bt cW a7;obtain⟨p5,l4,a6,a4⟩:=((mQ.zv W3).O cX).map.z.store Tryz.lawA Tryz.underWo (by unfold maxLen;decide) b8 (val:=ai zr) rfl;have HE:=ay (YE ((mQ.zv W3).O cX) bX (nR _) (uq b7) a6 a4))
        |(obtain⟨p5,l4,a6,a4⟩:=((mQ.zv c8).O a7).map.z.store Tryz.lawA Tryz.underWo (by unfold maxLen;decide) b8 (val:=ai zr) rfl;have HE:=ay (YE ((mQ.zv c8).O a7) bX bW.size (uq b7) a6 a4))
        |(obtain⟨p5,l4,a6,a4⟩:=(mQ.zv c9).map.z.store Tryz.lawA Tryz.underWo (by unfold maxLen;decide) b8 (val:=ai zr) rfl;have HE:=ay (YE (A:=W3) (mQ.zv c9) (qC bX _) bX.size (uq (l:=ow) b7) a6 a4))))
     |fail)
   all_goals
    rw[p4.o]at HE
    clear l4 a6 a4 bX a7 KO KR HS b8 p4
    go_wp2
    go_meet
    exact⟨_,_,rfl,HE⟩
  case rest=>
   obtain⟨bm,Dm,rfl,p6⟩:=hcut;generalize wc=W4 at *;have p7:=p6;clear p6;go_wp2;go_loopw [14,60] (λu t wq=>∃(q bm:Nat) (ks:LL) (Dm:DataW Unit),q<=j/\t=ai q/\u=.map (Q bm)/\Hh (Bl W3 wq/\J W3.1<=bm/\mQ wq bm ks Dm (fnd q ka))) (λ_ t _=>j-(intOf t).toNat);exact⟨0,bm,_,_,nZ _,rfl,rfl,p7⟩;clear p7;obtain⟨q,bm,ks,Dm,hq,rfl,rfl,HM⟩:=hrel;generalize wr=W5 at *;by_cases p8:q<j
   ·have i3:(q:Int)<j:=Oo;have i8:q<E cs:=O1 HN.o
    have h4:=a5.o.1.kg.P HM.o.1;have p9:=HG.o.b0 h4;obtain⟨t5,t6,eb,g6⟩:=HG.o.msgs h4;simp only[vI]at eb;obtain⟨rfl,-,rfl⟩:=eb;rcases g6 with h0|⟨b1,o1,rfl,t7,h9⟩;omega;obtain⟨c1,n1,q1,c2,n2,q2,bj,g0,g1,g2,g3,a8⟩:=h9 q i8;unfold rgV at g0;go_upto_region 15 with fail;have g7:Bl W5 (S W5 (eZ #[.iface (rgT r) (aQ #[]),Z c1 n1 q1,Z c2 n2 q2,.map (Q bj)] 149)):=(bJ _ _).alloc (nR _) _;have l5:(S W5 (eZ #[.iface (rgT r) (aQ #[]),Z c1 n1 q1,Z c2 n2 q2,.map (Q bj)] 149)).1[J W5.1]?=Q (eZ #[.iface (rgT r) (aQ #[]),Z c1 n1 q1,Z c2 n2 q2,.map (Q bj)] 149 (0,0)):=dZ _ _;generalize (S W5 (eZ #[.iface (rgT r) (aQ #[]),Z c1 n1 q1,Z c2 n2 q2,.map (Q bj)] 149))=W6 at *;have h5:=bt HM.o.1 g7;have j4:=HM.o.2.2.O g7;generalize J W5.1=zc at *;have e6:=d5.o.zz Oo h5;have j5:=a5.o.1.kg.P h5;have d6:=HG.o.b0 j5;obtain⟨B',e7,D',d7⟩:=a8.en;obtain⟨y0,x0,q0⟩:=w8.o q i8;obtain⟨⟨s',cc⟩,j6,l6⟩:=cC.1 (d7.all _ _ _ q0);have l6:s'=xM (U cs q zF).sh ka:=l6;subst l6;obtain⟨kc,Dc,i9⟩:=d7.inner _ j6;have x3:=d7.ref _ j6;have q3:=p2.o q Oo ks HM.o.2.2.map.nd λa ha=>(HM.o.2.2.key a).1 ha;have q4:=t2.o q i8 _ kc i9.map.nd λa ha=>(i9.key a).1 ha;have b8:keyOf Tryz.prog 140 (asV (xS (U cs q zF).sh fa))=Q (kla (xM (U cs q zF).sh ka)):=by rw[h3.o];exact yP (uq b7)
    have KO:Hh (∀W,Bl W6 W->Cl 136 #[aQ #[ai (fa 0),ai (fa 1),ai (fa 2),ai (fa 3),ai (fa 4),ai (fa 5)],Z c1 n1 q1] W λe w'=>e=rE (asV (xS (U cs q zF).sh fa))/\Bl W w'):=ay λW hW=>jq W fa _ (a8.sh.zz (bt d6 hW)) a8.ls.1 a8.i1;have KJ:Hh (∀W,Bl W6 W->Cl 138 #[pZ pm 0,.map (Q bm),.map (Q cc),Z c2 n2 q2] W λe w'=>∃bo j0 D' M',e=rE (.map (Q bo))/\J W.1<=bo/\mQ w' bo j0 D' M'/\JoM r (U cs q zF).hd (fnd q ka) ((U cs q zF).iQ (xM (U cs q zF).sh ka)) (λ_ _=>True) M'/\Bl W w'):=ay λW hW=>qAH hr W pm bm cc _ _ ks kc Dm Dc _ _ (qF (bt h5 hW) a5.o.1.mb.cells.1) (j4.O hW) (i9.O (bt d6 hW)) (a8.hd.is.zz (bt d6 hW)) a8.ls.2 a8.i2 Oo Oo;have k4:Hh (∀W,Bl W6 W->En W B' bj (U cs q zF).iQ e7 D'):=ay λW hW=>d7.O (bt d6 hW);have HS:Hh (∀W,Bl W6 W->eQ W (az zc 1)=Q (Z c1 n1 q1)/\eQ W (az zc 2)=Q (Z c2 n2 q2)/\eQ W (az zc 3)=Q (.map (Q bj))/\eQ W (az za 0)=Q (ai (fa 0))/\eQ W (az za 1)=Q (ai (fa 1))/\eQ W (az za 2)=Q (ai (fa 2))/\eQ W (az za 3)=Q (ai (fa 3))/\eQ W (az za 4)=Q (ai (fa 4))/\eQ W (az za 5)=Q (ai (fa 5))):=ay λW hW=>by
     have e:=(hW.block zc (dK.1 l5).1).trans l5;exact⟨by rw[fA _ _ _ _ _ _ e];rfl,by rw[fA _ _ _ _ _ _ e];rfl,by rw[fA _ _ _ _ _ _ e];rfl,(e6.zz Oo hW).cell 0 Oo,(e6.zz Oo hW).cell 1 Oo,(e6.zz Oo hW).cell 2 Oo,(e6.zz Oo hW).cell 3 Oo,(e6.zz Oo hW).cell 4 Oo,(e6.zz Oo hW).cell 5 Oo⟩
    have b0:Bl W6 W6.drew:=(bJ _ _).drew;have q5:=ay h5;have q6:Hh (∀M,JoM r (U cs q zF).hd (fnd q ka) ((U cs q zF).iQ (xM (U cs q zF).sh ka)) (λ_ _=>True) M->∀h,fnd (q+1) ka h=M h):=ay (j3.o q i8);clear a8 d7 i9 j4 e6 j5 d6 g7 l5 h5 g0 g1 g2 g3 h9 p9 h4 HM q0 q3 q4;generalize U cs q zF=ch at *;go_region_held_law (λW=>eQ W (az zc 1)=Q (Z c1 n1 q1)/\eQ W (az zc 2)=Q (Z c2 n2 q2)/\eQ W (az zc 3)=Q (.map (Q bj))/\eQ W (az za 0)=Q (ai (fa 0))/\eQ W (az za 1)=Q (ai (fa 1))/\eQ W (az za 2)=Q (ai (fa 2))/\eQ W (az za 3)=Q (ai (fa 3))/\eQ W (az za 4)=Q (ai (fa 4))/\eQ W (az za 5)=Q (ai (fa 5)))
     (first
      |with_reducible exact HS.o _ b0
      |with_reducible exact HS.o _ bW
      |with_reducible exact HS.o _ bX
      |fail)
     (first
      |(go_simp;go_at_call 136;(with_reducible refine(KO.o _ b0).mono ?_);rintro e c8 ⟨rfl,d2⟩;have bW:=bt b0 d2;obtain⟨vv,ps,x4,hvv⟩:=(k4.o _ bW).map.z.lookup Tryz.lawA Tryz.underEn (Tryz.zeroW _) (zd:=.lit (.int .i64 (-1))) (zp:=[]) rfl b8;rw[x3]at hvv;obtain rfl:=Zk hvv)
      |(go_simp;go_at_call 138;(with_reducible refine(KJ.o _ bW).mono ?_);rintro e c9 ⟨bo,j0,q7,z9,rfl,A0,k5,k6,a7⟩;have bX:=bt bW a7)
      |fail)
    all_goals
     have HE:Hh (Bl W3 c9/\J W3.1<=bo/\mQ c9 bo j0 q7 (fnd (q+1) ka)):=ay ⟨bt q5.o bX,by have:=q5.o.size;have:=bW.size;omega,k5.V (q6.o _ k6)⟩
     clear k5 k6 bX bW a7 HS KO KJ b8 k4 x4 hvv q6
     go_wp2
     go_roundw;exact⟨q+1,bo,j0,q7,Oo,Gg,rfl,HE⟩;exact Im
   have p8:q=j:=Oo;subst p8;have i3:¬((q:Int)<q):=Oo;go_upto_region 17 with fail;have d8:=HM.o.1;have d9:Gs r w W5 sS lo pm be (Z ah (E sh) kh) (Z ao (E ow) ko) v ow (hds cs q) (bl r b sh rows (fnd (E cs)) i) es D:=⟨a5.o.1.kg.P d8,a5.o.1.mb.A (d8.block _ a5.o.1.mb.cells.2.2.2.2.2),a5.o.1.hd.A d8.size (λk hk _=>d8.block k hk) (xn a5.o.1.hd.z a5.o.1.mb),a5.o.1.en.O d8⟩;have q8:=a5.o.2.zz d8;have e8:=d5.o.zz Oo d8;have w5:=HG.o.zone;have A1:=HG.o.inS pm HG.o.spm;have A2:=HG.o.inS be HG.o.sbe;have A3:J w.1<=J W3.1:=a5.o.1.kg.size;have A4:=HM.o.2.1;have y5:=(qL HG.o.ok).2.1;have q9:bm∉es.map Prod.snd:=λhm=>by
    obtain⟨e,he,e1⟩:=cC.1 hm;obtain⟨k3,D3,hw⟩:=a5.o.1.en.inner e he;have:=hw.lt;omega
   have x5:=p2.o q (O1 HN.o) ks HM.o.2.2.map.nd λa ha=>(HM.o.2.2.key a).1 ha;have KO:Hh (∀W,Bl W5 W->Cl 136 #[aQ #[ai (fa 0),ai (fa 1),ai (fa 2),ai (fa 3),ai (fa 4),ai (fa 5)],Z ah (E sh) kh] W λe w'=>e=rE (asV (xS sh fa))/\Bl W w'):=ay λW hW=>jq W fa sh (HG.o.shr W (d9.kg.P hW)) HG.o.lsh.1 HG.o.lsh.2;have KP:Hh (∀W,Bl W5 W->Cl 139 #[.map (Q be),asV (xS sh fa),.map (Q bm),.func (.func 140) #[pZ pm 0] #[]] W λe w'=>e=rE (.tuple #[])/\(∃e7,(∃D',En w' (J w.1) be (cg r (bl r b sh rows (fnd (E cs)) i) (xM sh ka) (fnd q ka)) e7 D')/\E e7<=E es+1)/\Kg (Ent be es) W w'):=ay λW hW=>by
    have:=qDW hr W (J w.1) be pm bm (bl r b sh rows (fnd (E cs)) i) es D Dm (xM sh ka) ks (fnd q ka) (d9.en.O hW) (qF hW d9.mb.cells.1) (HM.o.2.2.O hW) (uq b7) Oo q9 Oo Oo Oo (t3.o i o6 _) x5;rwa[<-h3.o]at this
   have HS:Hh (∀W,Bl W5 W->eQ W (az pm 1)=Q (Z ah (E sh) kh)/\eQ W (az pm 3)=Q (.map (Q be))/\eQ W (az za 0)=Q (ai (fa 0))/\eQ W (az za 1)=Q (ai (fa 1))/\eQ W (az za 2)=Q (ai (fa 2))/\eQ W (az za 3)=Q (ai (fa 3))/\eQ W (az za 4)=Q (ai (fa 4))/\eQ W (az za 5)=Q (ai (fa 5))):=ay λW hW=>⟨qF hW d9.mb.cells.2.1,qF hW d9.mb.cells.2.2.2.1,(e8.zz Oo hW).cell 0 Oo,(e8.zz Oo hW).cell 1 Oo,(e8.zz Oo hW).cell 2 Oo,(e8.zz Oo hW).cell 3 Oo,(e8.zz Oo hW).cell 4 Oo,(e8.zz Oo hW).cell 5 Oo⟩;have HT:Hh (∀W W',Bl W5 W->Kg (Ent be es) W W'->eQ W' (az pm 1)=Q (Z ah (E sh) kh)/\eQ W' (az pm 3)=Q (.map (Q be))/\eQ W' (az za 0)=Q (ai (fa 0))/\eQ W' (az za 1)=Q (ai (fa 1))/\eQ W' (az za 2)=Q (ai (fa 2))/\eQ W' (az za 3)=Q (ai (fa 3))/\eQ W' (az za 4)=Q (ai (fa 4))/\eQ W' (az za 5)=Q (ai (fa 5))):=ay λW W' hW hk=>by
    obtain⟨s0,s1,s2,s3,s4,s5,s6,s7⟩:=HS.o W hW;have e0:∀{p o:Nat} {u:oV},eQ W (az p o)=Q u->eQ W' (az p o)=Q u:=λ{p o u} hc=>(bF (w:=W) (a:=(az p o)) (hk.nomap (d9.en.O hW) (bL W _ hc) (jo hc))).trans hc;exact⟨e0 s0,e0 s1,e0 s2,e0 s3,e0 s4,e0 s5,e0 s6,e0 s7⟩
   have r3:=ay (And.intro d9 q8);have b0:Bl W5 W5.drew:=(bJ _ _).drew;clear d9 q8 e8 HM d8 q9;go_region_held_law (λW=>eQ W (az pm 1)=Q (Z ah (E sh) kh)/\eQ W (az pm 3)=Q (.map (Q be))/\eQ W (az za 0)=Q (ai (fa 0))/\eQ W (az za 1)=Q (ai (fa 1))/\eQ W (az za 2)=Q (ai (fa 2))/\eQ W (az za 3)=Q (ai (fa 3))/\eQ W (az za 4)=Q (ai (fa 4))/\eQ W (az za 5)=Q (ai (fa 5)))
    (first
     |with_reducible exact HS.o _ b0
     |with_reducible exact HS.o _ bW
     |with_reducible exact HT.o _ _ bW e2
     |fail)
    (first
     |(go_simp;go_at_call 136;(with_reducible refine(KO.o _ b0).mono ?_);rintro e c8 ⟨rfl,d2⟩;have bW:=bt b0 d2)
     |(go_simp;go_at_call 139;(with_reducible refine(KP.o _ bW).mono ?_);rintro e c9 ⟨rfl,⟨e7,⟨D',h7⟩,z3⟩,e2⟩)
     |fail)
   all_goals
    have HE:Hh (Gs r w c9 sS lo pm be (Z ah (E sh) kh) (Z ao (E ow) ko) v ow (hds cs q) (bl r b sh rows (fnd (E cs)) (i+1)) e7 D'/\TX c9 (J w.1) (Z a0 (E b) k0) (sZ b3 o3 (E rows) k1) (Z a2 (E ws) k2)):=ay (by
     obtain⟨y1,y2⟩:=r3.o;have r4:=y1.en.O bW;have nm:∀k,k<c8.1.size->(∀x y,c8.1[k]?≠Q (.map x y))->c9.1[k]?=c8.1[k]?:=λk h1 h2=>e2.nomap r4 h1 h2;have f7:MgB r c8 pm be (Z ah (E sh) kh) v:=y1.mb.A (bW.block _ y1.mb.cells.2.2.2.2.2);have f8:=y2.zz bW;refine⟨⟨(y1.kg.P bW).ent e2 HG.o.sbe λe he=>y1.en.low e he,f7.A (nm pm f7.cells.2.2.2.2.2 (jo f7.cells.1)),(y1.hd.A bW.size (λk hk _=>bW.block k hk) (xn y1.hd.z y1.mb)).keep e2.size nm,h7.V λs a=>?_⟩,⟨(nm _ f8.lt (jo f8.c0)).trans f8.i⟩⟩;rw[w9.o,<-HN.o])
    clear h7 e2 bW HS HT KO KP r3
    go_wp2
    go_roundw;exact⟨i+1,e7,D',Oo,Gg,Oo,HE⟩;exact Im
 have d3:i=E rows:=Oo;have i2:¬((i:Int)<(E rows:Int)):=Oo;have HE:Hh (Gs r w wr sS lo pm be (Z ah (E sh) kh) (Z ao (E ow) ko) v ow (hds cs j) (bl r b sh rows (fnd (E cs)) (E rows)) es D):=ay (by
  have h:=HX.o.1;rw[d3]at h;exact h)
 clear HX;go_wp2;refine bodyPost_end (nK rfl _ _ _) rfl ⟨rfl,v,es,Oo,D,by have h:=HE.o;rw[<-HN.o]at h;exact h⟩
