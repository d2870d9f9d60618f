import Derived.Test.YtfpjpngjikdaoaaGreatAg08
import Derived.Test.YtfpjpngjikdaoaaGreatAg16
import Derived.BigRegion
import Derived.Test.YtfpjpngjikdaoaaGreatAg14
import Derived.Test.YtfpjpngjikdaoaaGreatAg19
import Derived.Test.YtfpjpngjikdaoaaGreatAg21
import Derived.Test.YtfpjpngjikdaoaaGreatAg20
set_option maxHeartbeats 40000000
set_option maxRecDepth 1000000
set_option linter.defProp false
open List Go.World
open List renaming length->E,getD->U
open Option renaming some->Q
open Go renaming World->oX,Value->oV,trodAll_cons_mk->tK
open Go.Value renaming bool->oB,slice->Z,agg->aQ
open Array renaming size->J
open Go.World renaming alloc->S,cell?->eQ,ownsRow->oW
open Go.Obj renaming cells->eZ
open Go.Ending renaming returned->rE
open Bool renaming false->nF
open Go.Proofs.Tryz renaming prog->wD
namespace Go.Proofs.YtfpjpngjikdaoaaGreat
open Go.Proofs.Tryz Go.ChangeShapes Go.WideShapes Go.ChangeAt Go.RowKit Go.Joins Go.Deep
section
variable {H:Type} {enc:TypeId×oV->H} {W:oX}
def InR(l:LI):Prop:=∀y∈l,-9223372036854775808<=y/\y<=9223372036854775807
def qB6{fuel:Nat}{v:oV}{x:DataW H×List MemPlace}(h:DataW.trod enc wD W 0 (λ_=>true) true fuel 24 [v]=Q x):
 ∃l,IS W v l/\E l<=9223372036854775807/\InR l:=by
 rcases open_slice1 underlying24 Tryz.cellsI h with ⟨a3,_⟩|⟨a,len,cap,m,n,V,D,Pl,a3,_,hl,hm,a4,_,hV⟩;simp only[mS,iB]at a3;subst a3;exact⟨[],⟨_,_,rfl,.inl rfl⟩,Ss,λy hy=>by cases hy⟩;simp only[mS,iB]at a3;subst a3;rw[fE rfl]at a4;have hz:∀i,i<len->∃z,V i=ai z/\(-9223372036854775808<=z/\z<=9223372036854775807):=λi hi=>by
  have⟨_,h2⟩:=hV i Oo;have⟨z,e0,_,hw⟩:=DataW.trod_int underlying3 h2;exact⟨z,by simpa using e0,by simpa[Lit.wf,IntKind.min,IntKind.max,IntKind.signed,IntKind.bits]using hw⟩
 have e:∀i,i<len->V i=ai (intOf (V i)):=λi hi=>by
  obtain⟨z,hz,-⟩:=hz i hi;rw[hz];rfl
 refine⟨(range len).map λi=>intOf (V i),⟨Q a,cap,Ss,?_⟩,by simp;unfold maxLen at hm;omega,λy hy=>?_⟩;rotate_left;obtain⟨i,hi,rfl⟩:=cC.1 hy;have⟨z,e1,e2⟩:=hz i (cJ.1 hi);rw[e1];exact e2;by_cases h0:len=0;left;simp[h0];right;have⟨b,o,spot⟩:=a;have hs:spot=none:=cell?_spot (hV 0 Oo).1;subst hs;refine⟨b,o,rfl,λj hj=>?_⟩;simp only[lM,length_range]at hj;rw[zU hj,<-e j hj];unfold az;rw[<-add_plain];exact(hV j Oo).1
def qAV{fuel:Nat}{v:oV}{x:DataW H×List MemPlace}(h:DataW.trod enc wD W 0 (λ_=>true) true fuel 23 [v]=Q x):
 ∃ls,ISS W v ls/\Fits ls/\Wf ls:=by
 rcases open_slice1 underlying23 Tryz.cellsIS h with ⟨a3,_⟩|⟨a,len,cap,m,n,V,D,Pl,a3,_,hl,hm,a4,_,hV⟩;simp only[mS,iB]at a3;subst a3;exact⟨[],⟨_,_,rfl,.inl rfl⟩,⟨Ss,λj=>Ss⟩,λy hy=>by cases hy⟩;simp only[mS,iB]at a3;subst a3;rw[fE rfl]at a4;have hz:∀i,i<len->∃l,IS W (V i) l/\E l<=9223372036854775807/\InR l:=λi hi=>by
  have⟨_,h2⟩:=hV i Oo;exact qB6 h2
 have⟨L,hL⟩:=choose_lt hz;refine⟨(range len).map L,⟨Q a,cap,Ss,?_⟩,⟨by simp;unfold maxLen at hm;omega,λj=>?_⟩,λr hr=>?_⟩
 ·by_cases h0:len=0;left;simp[h0];right;have⟨b,o,spot⟩:=a;have hs:spot=none:=cell?_spot (hV 0 Oo).1;subst hs;refine⟨b,o,rfl,λj hj=>?_⟩;simp only[lM,length_range]at hj;refine⟨V j,?_,?_⟩;unfold az;rw[<-add_plain];exact(hV j Oo).1;rw[zU hj];exact(hL j hj).1
 ·by_cases hj:j<len;rw[zU hj];exact(hL j hj).2.1;rw[gD,gN (by simpa using hj)];simp
 obtain⟨i,hi,rfl⟩:=cC.1 hr;exact(hL i (cJ.1 hi)).2.2
def qAW{fuel:Nat}{cs:List oV}{x:DataW H×List MemPlace}(h:DataW.trod enc wD W 0 (λ_=>true) true fuel 53 cs=Q x):
 ∃v0 v1 v2 t,cs=[v0,v1,v2]/\IT W v0 v1 v2 t.e t.x t.k/\TvF t/\Wf t.x:=by
 have⟨y0,y1,y2,n,_,hlen,h0,h1,h2⟩:=trod_struct3 underlying53 h;rw[Tryz.cellsTabL]at hlen;obtain⟨c0,c1,c2,rfl⟩:=qJf hlen;simp only[Tryz.cellsISS6,Tryz.cellsIS,drop_zero,drop_succ_cons,take_succ_cons,take_zero]at h0 h1 h2;have⟨vs,i0,f0⟩:=y6 h0;have⟨rows,i1,f1,r1⟩:=qAV h1;have⟨ws,i2,f2⟩:=y6 h2;exact⟨c0,c1,c2,⟨vs,rows,ws⟩,rfl,⟨i0,i1,i2⟩,⟨f0,f1,f2⟩,r1⟩
def JY{fuel:Nat}{v:oV}{x:DataW H×List MemPlace}(h:DataW.trod enc wD W 0 (λ_=>true) true fuel 22 [v]=Q x):
 ∃tl,ITs W v tl/\E tl<=9223372036854775807/\(∀t∈tl,TvF t)/\∀t∈tl,Wf t.x:=by
 rcases open_slice underlying22 h with ⟨a3,_⟩|⟨a,len,cap,m,n,D,Pl,a3,_,hl,hm,a5,_,hV⟩;simp only[mS,iB]at a3;subst a3;exact⟨[],⟨_,_,rfl,.inl rfl⟩,Ss,(λt ht=>by cases ht),λt ht=>by cases ht⟩;simp only[mS,iB]at a3;subst a3;rw[fE rfl]at a5;have hz:∀i,i<len->∃t:TbV,(∃v0 v1 v2,W.cell? (a.add (i*3))=Q v0/\W.cell? ((a.add (i*3)).add 1)=Q v1/\W.cell? ((a.add (i*3)).add 2)=Q v2/\IT W v0 v1 v2 t.e t.x t.k)/\TvF t/\Wf t.x:=λi hi=>by
  have⟨a6,h1,h2⟩:=hV i Oo;rw[Tryz.cellsTabL]at h1;have⟨_,hlen,hc⟩:=cells?_some h1;obtain⟨v0,v1,v2,t,rfl,a4,hf⟩:=qAW h2;have e0:=hc 0 Oo;exact⟨t,⟨v0,v1,v2,by simpa[Addr.add]using e0,hc 1 Oo,hc 2 Oo,a4⟩,hf⟩
 have inh:Inhabited TbV:=⟨qA⟩
 have⟨L,hL⟩:=choose_lt hz;refine⟨(range len).map L,⟨Q a,cap,Ss,?_⟩,by simp;unfold maxLen at hm;omega,λt ht=>?_,λt ht=>?_⟩
 ·by_cases h0:len=0;left;simp[h0];right;have⟨b,o,spot⟩:=a;have hs:spot=none:=by
   have⟨⟨v0,v1,v2,c0,_⟩,_⟩:=hL 0 Oo;exact cell?_spot c0
  subst hs;refine⟨b,o,rfl,λj hj=>?_⟩;simp only[lM,length_range]at hj;rw[zU hj];have⟨⟨v0,v1,v2,c0,c1,c2,a4⟩,_⟩:=hL j hj;rw[add_plain]at c0;rw[add_plain,add_plain]at c1 c2;exact⟨v0,v1,v2,c0,c1,c2,a4⟩
 obtain⟨j,hj,rfl⟩:=cC.1 ht;exact(hL j (cJ.1 hj)).2.1;obtain⟨j,hj,rfl⟩:=cC.1 ht;exact(hL j (cJ.1 hj)).2.2
end
end Go.Proofs.YtfpjpngjikdaoaaGreat
namespace Go.Proofs.YtfpjpngjikdaoaaGreat
open Go.Proofs.Tryz Go.RowKit
variable {hi lo B:Nat}{a b:oX}
open Meet
def Jc w v{v' ls}(h:ISS w v ls)(I:ISS w v' ls)(hl:qS ls):
 aG 11 #[v,v'] w (oB true):=
 (jZ w v h I hl).mono (by
  rintro e w' ⟨rfl,m,rfl⟩;exact⟨rfl,below_drewN eB m⟩)
def Fr.belJ(h:Fr lo hi a b)(hs:lo<=a.1.size):Below lo a b:=⟨h.os,h.tape,h.output,h.size,λx I=>h.block x Oo (Or.inl I)⟩
def RQ.frJ{v us ls}(h:RQ a B v us ls)(K:Fr lo hi a b)(hB:hi<=B):RQ b B v us ls:=
 ⟨qD h.z λg I=>K.block g (h.z.lt g I).2 (Or.inr (bM hB (h.z.lt g I).1)),h.C,λi hi=>qD (h.l i hi) λg I=>K.block g ((h.l i hi).lt g I).2 (Or.inr (bM hB ((h.l i hi).lt g I).1)),h.ap⟩
end Go.Proofs.YtfpjpngjikdaoaaGreat
namespace Go.Proofs.YtfpjpngjikdaoaaGreat
open Go.Proofs.Tryz Go.RowKit Meet
def fW{lo hi B n:Nat}{a b:oX}{v:oV}{xs:List oV}(h:a.ownsRow B 3 1 v n xs)(hf:Fr lo hi a b)(hB:hi<=B):b.ownsRow B 3 1 v n xs:=qD h λg hg=>hf.block g (h.lt g hg).2 (Or.inr (bM hB (h.lt g hg).1))
def mJ{k:Int}{tl:List TbV}{bs:LL}{ps hs:LI}{ws:List (Int×Int)}{x:Int×Int}{hd:LI}{ring:Int}:E (yv (qc k tl bs ps hs ws x) k tl hd ring)<=10000/\(∀r∈yv (qc k tl bs ps hs ws x) k tl hd ring,E r<=6)/\E (vi (qc k tl bs ps hs ws x) k tl hd ring)=E (yv (qc k tl bs ps hs ws x) k tl hd ring):=by
 unfold yv vi;by_cases h:cd (qc k tl bs ps hs ws x) k tl hd ring
 ·rw[fE h,fE h];obtain⟨h0,h2,-⟩:=dz h;unfold agV;refine⟨?_,λr hr=>?_,lM _⟩;unfold agR;have h1:=yK _ ((qO tl (upR k.toNat)).map (qM hd)) (nR _);rw[lM]at h1;exact bM h1 y8.1;unfold agR at hr;obtain⟨p,-,rfl⟩:=cC.1 (qDw hr);unfold qM;rw[lM];exact UB h2 (xA (zR h0).2.1).2.1
 rw[fF h,fF h];exact⟨Ss,λt ht=>(by cases ht),rfl⟩
def fy(w:oX)(vt v0 v1 v2 v3 vh:oV)(k x y ring:Int)(tl:List TbV)(bs:LL)(ps hs:LI)(ws:List (Int×Int))(hd:LI)(h:ITs w vt tl)(hp:IPl w v0 v1 v2 v3 bs ps hs ws)(hl:E tl<=9223372036854775807)(q0:∀t∈tl,TvF t)(hf:Fits bs)(q1:E ps<=9223372036854775807)(q2:E hs<=9223372036854775807)(q3:E ws<=9223372036854775807)(q4:∀t∈tl,Wf t.x)(hh:IS w vh hd)(C0:E hd<=9223372036854775807):
 Cl 3 #[ai k,vt,aQ #[v0,v1,v2,v3,ai x,ai y],vh,ai ring] w λe w'=>e=rE (oB true)/\Bl w w':=by
 have F3:Tryz.prog.follows .mixedOrders:=Kl;have a8:∀W:oX,Bl W W.drew:=λW=>(bJ _ _).drew;have j2:=ay h;have j3:=ay hp;have m5:=ay hh;have q5:=ay q4;obtain⟨ah,ch,C1,-⟩:=id hh;subst C1;obtain⟨C2,ct,C3,-⟩:=id h;obtain⟨a0,k0,e0,-⟩:=id hp.b;obtain⟨a1,k1,e1,-⟩:=id hp.p;obtain⟨a2,k2,e2,-⟩:=id hp.h;obtain⟨a3,k3,e3,-⟩:=id hp.d;subst C3 e0 e1 e2 e3;obtain⟨W0,f8⟩:=Ex (S w (eZ #[Z a0 (E bs) k0,Z a1 (E ps) k1,Z a2 (E hs) k2,Z a3 (E ws) k3,ai x,ai y] 29));have c9:Hh (Bl w W0):=ay (by rw[f8];exact(bJ _ _).alloc (nR _) _);have q6:Hh (PX 29 W0 (J w.1) (Z a0 (E bs) k0) (Z a1 (E ps) k1) (Z a2 (E hs) k2) (Z a3 (E ws) k3) x y):=ay (by rw[f8];exact PX.zw _ _ _ _ _ _ _ _);have KZ:=ay (Ue (j2.o.zz c9) hl q0 (nR _));have m6:Hh (∀W (z:Int),Bl W0 W->0<=z->z<=1048576->Cl 5 #[aQ #[Z a0 (E bs) k0,Z a1 (E ps) k1,Z a2 (E hs) k2,Z a3 (E ws) k3,ai x,ai y],ai z] W λe w'=>e=rE (ai (szP bs ps hs ws z))/\Bl W w'):=ay λW z hW h1 h2=>qA7 W x y z (j3.o.zz (bt c9 hW)) hf q1 q2 q3 h1 h2;have d1:Hh (∀W,Bl W0 W->eQ W (az (J w.1) 0)=Q (Z a0 (E bs) k0)/\eQ W (az (J w.1) 1)=Q (Z a1 (E ps) k1)/\eQ W (az (J w.1) 2)=Q (Z a2 (E hs) k2)/\eQ W (az (J w.1) 3)=Q (Z a3 (E ws) k3)/\eQ W (az (J w.1) 4)=Q (ai x)/\eQ W (az (J w.1) 5)=Q (ai y)):=ay λW hW=>(q6.o.zz hW).six;clear h hp q0 hf q1 q2 q3 q6 hh q4;by_cases q8:1048576<E hd
 ·have i1:(1048576:Int)<(E hd:Int):=Oo;clear KZ m6 d1 j2 j3 m5;go_enter func3,ntmps3;go_upto_region 1 with fail;rw[<-f8];clear f8;go_wp2;go_ret;exact⟨rfl,c9⟩
 have i1:¬((1048576:Int)<(E hd:Int)):=Oo;have G1:E hd<=1048576:=Oo;clear q8 C0;go_enter func3,ntmps3;go_upto_region 1 with fail;rw[<-f8];clear f8;go_wp2_with fail;apply KZ.o.mono;rintro e w1 ⟨z,rfl,hz,f9⟩;by_cases q9:z<0
 ·go_wp2;go_ret;exact⟨rfl,bt c9 f9⟩
 obtain⟨hB,r6⟩:=hz Oo;have HB:=ay hB;have r7:¬(z<0):=q9;obtain⟨s0,s1,s2,s3,s4,s5⟩:=d1 _ f9;have m7:=ay (m6 _ z f9 Oo r6);clear hz KZ m6;obtain⟨sz,m8⟩:=Ex (szP bs ps hs ws z);rw[<-m8]at m7;have r8:Hh (¬sz<0->tot bs (E bs)+E ps+E hs+E ws<=1048576):=ay λh=>by
  rw[m8]at h;unfold szP at h;by_cases hg:z<tot bs (E bs)+E ps+E hs+E ws;rw[fE hg]at h;omega;omega
 clear m8 hB;go_wp2_with fail;apply m7.o.mono;rintro e w2 ⟨rfl,m9⟩;by_cases C4:sz<0
 ·go_wp2;go_ret;exact⟨rfl,bt (bt c9 f9) m9⟩
 have hT:=r8 Oo;have F4:¬(sz<0):=C4;have j4:=ay (bt f9 m9);have HT:=ay hT;clear s0 s1 s2 s3 s4 s5 m7 r8 f9 m9 r6 q9 r7 hl;have g4:=ay (qHA HB);have g5:Hh (qS bs):=ay (qAY (O1 HT));have n3:E tl<=1048576:=O1 HB.o
 have G2:E bs<=1048576:=by have:=HT.o;unfold tot at this;omega
 have C5:E ps<=1048576:=Oo;have C6:E hs<=1048576:=Oo;have r9:E ws<=1048576:=Oo;have C7:tot bs (E bs)<=1048576:=Oo;clear hT;have d2:=ay (mJ (k:=k) (tl:=tl) (bs:=bs) (ps:=ps) (hs:=hs) (ws:=ws) (x:=(x,y)) (hd:=hd) (ring:=ring));have K2:Hh (∀W,Bl W0 W->Cl 9 #[Z ah (E hd) ch] W λe w'=>e=rE (sZ (J W.1) 0 (E hd) (E hd))/\OwnI w' (J W.1) hd/\Bl W w'):=ay λW hW=>yH W _ (m5.o.zz (bt c9 hW)) Oo;have K7:Hh (∀W g1 g2,OwnI W g1 hd->OwnI W g2 hd->Cl 12 #[sZ g1 0 (E hd) (E hd),sZ g2 0 (E hd) (E hd)] W λe w'=>e=rE (oB true)/\Bl W w'):=ay λW g1 g2 h1 h2=>QN W h1.is h2.is Oo;have KT:Hh (∀W,Bl W0 W->Cl 7 #[Z C2 (E tl) ct] W λe w'=>e=rE (sZ (J W.1) 0 (E tl) (E tl))/\HalfT w' (J W.1) (E tl) (E tl) tl/\J W.1<J w'.1/\Bl W w'):=ay λW hW=>Uf W (j2.o.zz (bt c9 hW)) Oo g4;have KP:Hh (∀W,Bl W0 W->Cl 8 #[aQ #[Z a0 (E bs) k0,Z a1 (E ps) k1,Z a2 (E hs) k2,Z a3 (E ws) k3,ai x,ai y]] W λe w'=>∃g0 g1 g2 g3,e=rE (aQ #[sZ g0 0 (E bs) (E bs),sZ g1 0 (E ps) (E ps),sZ g2 0 (E hs) (E hs),sZ g3 0 (E ws) (E ws),ai x,ai y])/\IPl w' (sZ g0 0 (E bs) (E bs)) (sZ g1 0 (E ps) (E ps)) (sZ g2 0 (E hs) (E hs)) (sZ g3 0 (E ws) (E ws)) bs ps hs ws/\Bl W w'/\ShPl (J W.1) (J w'.1) w' g0 g1 g2 g3 bs (E ps) (E hs) (E ws)):=ay λW hW=>by
  apply (Jq W x y (j3.o.zz (bt c9.o hW)) g5.o Oo Oo r9).mono;rintro e w' ⟨g0,g1,g2,g3,rfl,h1,h2,h3,h4,h5,h6⟩;exact⟨g0,g1,g2,g3,rfl,h1,h2,⟨h3,h4,h5,h6⟩⟩
 have KS:Hh (∀W g gh u0 u1 u2 u3,g<J W.1->HalfT W g (E tl) (E tl) tl->IPl W u0 u1 u2 u3 bs ps hs ws->OwnI W gh hd->Cl 6 #[ai k,sZ g 0 (E tl) (E tl),aQ #[u0,u1,u2,u3,ai x,ai y],sZ gh 0 (E hd) (E hd),ai ring] W λe w'=>∃(a:Option Addr) (c:Nat) (av:Option Addr) (cv:Nat),e=rE (.tuple #[Z a (E (yv (qc k tl bs ps hs ws (x,y)) k tl hd ring)) c,Z av (E (vi (qc k tl bs ps hs ws (x,y)) k tl hd ring)) cv])/\ISS w' (Z a (E (yv (qc k tl bs ps hs ws (x,y)) k tl hd ring)) c) (yv (qc k tl bs ps hs ws (x,y)) k tl hd ring)/\IS w' (Z av (E (vi (qc k tl bs ps hs ws (x,y)) k tl hd ring)) cv) (vi (qc k tl bs ps hs ws (x,y)) k tl hd ring)/\Bl W w'):=ay λW g gh u0 u1 u2 u3 hg h1 h2 h3=>by
  apply (gS W _ _ _ _ _ _ k x y ring _ _ _ _ _ _ h1.its (λW2 C8=>(h1.zz hg C8).itsC) n3 g4.o h2 g5.o h3.is Oo (λa n c e=>by cases e;exact nR _)).mono;rintro e w' ⟨v,vv,rfl,h3,h4,h5⟩;obtain⟨a,c,rfl,-⟩:=id h3;obtain⟨av,cv,rfl,-⟩:=id h4;exact⟨a,c,av,cv,rfl,h3,h4,h5⟩
 have KI:Hh (∀W g gh u0 u1 u2 u3,HalfT W g (E tl) (E tl) tl->IPl W u0 u1 u2 u3 bs ps hs ws->OwnI W gh hd->Cl 10 #[ai k,sZ g 0 (E tl) (E tl),aQ #[u0,u1,u2,u3,ai x,ai y],sZ gh 0 (E hd) (E hd),ai ring] W λe w'=>∃(a:Option Addr) (c:Nat) (av:Option Addr) (cv:Nat) (us:List oV),e=rE (.tuple #[Z a (E (yv (qc k tl bs ps hs ws (x,y)) k tl hd ring)) c,Z av (E (vi (qc k tl bs ps hs ws (x,y)) k tl hd ring)) cv])/\RQ w' (J W.1) (Z a (E (yv (qc k tl bs ps hs ws (x,y)) k tl hd ring)) c) us (yv (qc k tl bs ps hs ws (x,y)) k tl hd ring)/\oW w' (J W.1) 3 1 (Z av (E (vi (qc k tl bs ps hs ws (x,y)) k tl hd ring)) cv) (E (vi (qc k tl bs ps hs ws (x,y)) k tl hd ring)) ((vi (qc k tl bs ps hs ws (x,y)) k tl hd ring).map ai)/\(∀i,i<E (yv (qc k tl bs ps hs ws (x,y)) k tl hd ring)->ApW (U us i undef) (Z av (E (vi (qc k tl bs ps hs ws (x,y)) k tl hd ring)) cv))/\Bl W w'):=ay λW g gh u0 u1 u2 u3 h1 h2 h3=>by
  apply (gH W _ _ _ _ _ _ k x y ring _ _ _ _ _ _ h1.its n3 g4.o h2 g5.o Oo q5.o h3.is Oo (λa n c e=>by cases e;exact nR _)).mono;rintro e w' ⟨vR,vW,rfl,⟨us,h3,h4,h5⟩,h6⟩;obtain⟨a,c,rfl⟩:=h3.sl;obtain⟨av,cv,rfl⟩:=qG h4;exact⟨a,c,av,cv,us,rfl,h3,h4,h5,h6⟩
 generalize yv (qc k tl bs ps hs ws (x,y)) k tl hd ring=GT at *;generalize vi (qc k tl bs ps hs ws (x,y)) k tl hd ring=GV at *;have s6:Hh (qS GT):=ay ⟨O1 d2.1,λj=>by
  by_cases hj:j<E GT;have h1:=d2.2.1 (U GT j []) (by rw[gD,gE hj];exact gM _);omega;rw[gD,gN Oo];exact nZ _⟩
 have j5:Hh (zI GT (E GT)<=60000):=ay (by
  have h1:∀j,j<=E GT->zI GT j<=j*6:=λj=>by
   induction j with
   |zero=>intro _;exact nR _
   |succ j ih=>
    intro hj;have h2:=ih Oo;have h3:=d2.2.1 (U GT j []) (by rw[gD,gE Oo];exact gM _);show zI GT j+_<=_;omega
  have h4:=h1 _ (nR _);have h5:=d2.1;omega)
 have KE:Hh (∀W v v',ISS W v GT->ISS W v' GT->Cl 11 #[v,v'] W λe w'=>e=rE (oB true)/\Bl W w'):=ay λW v v' h1 h2=>Jc W v h1 h2 s6;have G3:E GV<=10000:=by have:=d2.1;have:=d2.2.2;omega
 have KV:Hh (∀W v v',IS W v GV->IS W v' GV->Cl 12 #[v,v'] W λe w'=>e=rE (oB true)/\Bl W w'):=ay λW v v' h1 h2=>QN W h1 h2 Oo;have j6:Hh (∀W g1 g2,HalfT W g1 (E tl) (E tl) tl->HalfT W g2 (E tl) (E tl) tl->Cl 13 #[sZ g1 0 (E tl) (E tl),sZ g2 0 (E tl) (E tl)] W λe w'=>e=rE (oB true)/\Bl W w'):=ay λW g1 g2 h1 h2=>Jw W h1.its h2.its n3 (λj hj=>g4 _ (Qa hj));have n4:Hh (∀W u0 u1 u2 u3 t0 t1 t2 t3,IPl W u0 u1 u2 u3 bs ps hs ws->IPl W t0 t1 t2 t3 bs ps hs ws->Cl 14 #[aQ #[u0,u1,u2,u3,ai x,ai y],aQ #[t0,t1,t2,t3,ai x,ai y]] W λe w'=>e=rE (oB true)/\Bl W w'):=ay λW u0 u1 u2 u3 t0 t1 t2 t3 h1 h2=>qCH W x y h1 h2 g5 Oo Oo Oo;have G4:E GT<=10000:=d2.1;clear d2 j2 j3 g4 g5 m5 q5 s6;clear a8;have a8:∀W:oX,Bl W W.drew:=λW=>(bJ _ _).drew;go_upto_region 10 with fail;go_cut [12,13] (λv8 v9 wx=>∃(a:Option Addr) (c:Nat) (av:Option Addr) (cv:Nat),v8=Z a (E GT) c/\v9=Z av (E GV) cv/\Hh (ISS wx (Z a (E GT) c) GT/\IS wx (Z av (E GV) cv) GV/\Bl W0 wx))
 case first=>
  obtain⟨s0,s1,s2,s3,s4,s5⟩:=d1 _ (bt j4 (a8 _));have n5:=ay (KT _ (bt j4 (a8 _)));clear KI KE KV j6 n4 HT HB K7 j5;go_region_law (first
   |(go_simp;go_at_call 7;apply n5.o.mono;rintro e w3 ⟨rfl,h3,s7,s8⟩;have k4:Bl W0 w3:=bt j4 (bt (a8 _) s8);obtain⟨r0,r1,r2,r3,r4,r5⟩:=d1 _ k4)
   |(go_simp;go_at_call 8;apply (KP.o _ k4).mono;rintro e w4 ⟨g0,g1,g2,g3,rfl,C9,d8,-⟩;have s9:=bt k4 d8)
   |(go_simp;go_at_call 9;apply (K2.o _ s9).mono;rintro e D0 ⟨rfl,D1,l1⟩;have n6:=bt d8 l1)
   |(go_simp;go_at_call 6;apply (KS.o _ _ _ _ _ _ _ (bN s7 n6.size) (h3.zz s7 n6) (C9.zz l1) D1).mono;rintro e w5 ⟨a5,c5,D2,D3,rfl,h5,D4,d9⟩)
   |fail)
  all_goals(go_wp2;go_meet)
  all_goals exact⟨a5,c5,D2,D3,rfl,rfl,ay ⟨h5,D4,bt (bt k4 n6) d9⟩⟩
 case rest=>
 obtain⟨a4,c4,G5,G6,rfl,rfl,HC⟩:=hcut;generalize wc=w4 at *;obtain⟨h4,n7,d8⟩:=HC.o;clear HC j4;go_wp2_with fail;apply (KT.o _ d8).mono;rintro e w5 ⟨rfl,h5,t6,d9⟩;have d3:=bt d8 d9;obtain⟨s0,s1,s2,s3,s4,s5⟩:=d1 _ d3;go_wp2_with fail;apply (KP.o _ d3).mono;rintro e w6 ⟨g0,g1,g2,g3,rfl,n8,k5,t7⟩;obtain⟨W6,k6⟩:=Ex (S w6 (eZ #[sZ g0 0 (E bs) (E bs),sZ g1 0 (E ps) (E ps),sZ g2 0 (E hs) (E hs),sZ g3 0 (E ws) (E ws),ai x,ai y] 39));have e4:Bl w6 W6:=by rw[k6];exact(bJ _ _).alloc (nR _) _
 have k7:Hh (PX 39 W6 (J w6.1) (sZ g0 0 (E bs) (E bs)) (sZ g1 0 (E ps) (E ps)) (sZ g2 0 (E hs) (E hs)) (sZ g3 0 (E ws) (E ws)) x y):=ay (by rw[k6];exact PX.zw _ _ _ _ _ _ _ _);clear s0 s1 s2 s3 s4 s5;go_upto_region 13 with fail;rw[<-k6];clear k6;go_wp2_with fail;apply (K2.o _ (bt d3 (bt k5 e4))).mono;rintro e b1 ⟨rfl,g6,d4⟩;obtain⟨s0,s1,s2,s3,s4,s5⟩:=(k7.o.zz d4).six;go_wp2_with fail;refine(KI.o _ _ _ _ _ _ _ (h5.zz t6 (bt (bt k5 e4) d4)) (n8.zz (bt e4 d4)) g6).mono ?_;rintro e w7 ⟨a7,c7,k8,k9,us,rfl,q7,o7,n9,g7⟩;have t8:Bl W6 w7:=bt d4 g7;clear s0 s1 s2 s3 s4 s5;have D5:Bl w6 w7:=bt e4 t8;have g8:Bl w5 w7:=bt k5 D5;have i7:ISS w7 (Z a7 (E GT) c7) GT:=q7.rs.iss (bJ _ _);go_wp2_with fail;apply (KE.o _ _ _ i7 (h4.zz (bt d9 g8))).mono;rintro e D6 ⟨rfl,g9⟩;go_wp2_with fail;refine(KV.o _ _ _ ((qN o7).zz g9) (n7.zz (bt (bt d9 g8) g9))).mono ?_;rintro e w8 ⟨rfl,t9⟩;have v6:=bt g9 t9;go_wp2_with fail;apply (KT.o _ (bt d3 (bt g8 v6))).mono;rintro e w9 ⟨rfl,h9,G7,D7⟩;have v7:Bl w7 w9:=bt v6 D7;go_wp2_with fail;apply (j6.o _ _ _ (h5.zz t6 (bt g8 v7)) h9).mono;rintro e a9 ⟨rfl,x3⟩;have b9:Bl w7 a9:=bt v7 x3;have l2:Bl w5 a9:=bt g8 b9;have h7:Bl W6 a9:=bt t8 b9;have x4:IPl a9 (sZ g0 0 (E bs) (E bs)) (sZ g1 0 (E ps) (E ps)) (sZ g2 0 (E hs) (E hs)) (sZ g3 0 (E ws) (E ws)) bs ps hs ws:=n8.zz (bt e4 h7);have o3:Hh (∀W,Bl a9 W->eQ W (az (J w6.1) 0)=Q (sZ g0 0 (E bs) (E bs))/\eQ W (az (J w6.1) 1)=Q (sZ g1 0 (E ps) (E ps))/\eQ W (az (J w6.1) 2)=Q (sZ g2 0 (E hs) (E hs))/\eQ W (az (J w6.1) 3)=Q (sZ g3 0 (E ws) (E ws))/\eQ W (az (J w6.1) 4)=Q (ai x)/\eQ W (az (J w6.1) 5)=Q (ai y)):=ay λW hW=>(k7.o.zz (bt h7 hW)).six;have l0:Hh (Bl W0 a9):=ay (bt d3 l2);go_upto_region 19 with fail;go_cut [83] (λv wx=>v=oB nF/\Hh (Bl a9 wx))
 case first=>
  obtain⟨s0,s1,s2,s3,s4,s5⟩:=d1 _ (bt l0 (a8 _));obtain⟨t0,t1,t2,t3,t4,t5⟩:=o3 _ (a8 _);have D8:=ay (KP _ (bt l0 (a8 _)));clear KI KE KV j6 KS HT HB KT K2 K7 j5;go_region_law (first
   |(go_simp;go_at_call 8;apply D8.o.mono;rintro e o4 ⟨f0,f1,f2,f3,rfl,x5,o5,-⟩;have h8:Bl a9 o4:=bt (a8 _) o5;obtain⟨r0,r1,r2,r3,r4,r5⟩:=o3 _ h8)
   |(go_simp;go_at_call 14;apply (n4.o _ _ _ _ _ _ _ _ _ (x4.zz h8) x5).mono;rintro e d5 ⟨rfl,x7⟩)
   |fail)
  all_goals(go_wp2;go_meet)
  all_goals exact⟨rfl,ay (bt h8 x7)⟩
 case rest=>
 obtain⟨rfl,y3⟩:=hcut;generalize wc=w12a at *;have d0:=y3.o;clear y3;go_wp2_with fail;apply (K2.o _ (bt l0.o d0)).mono;rintro e y4 ⟨rfl,y5,i0⟩;have z3:Bl b1 y4:=bt g7 (bt b9 (bt d0 i0));go_wp2_with fail;apply (K7.o _ _ _ (g6.zz z3) y5).mono;rintro e d5 ⟨rfl,o6⟩;have b7:Bl a9 d5:=bt d0 (bt i0 o6);have l3:Bl w5 d5:=bt l2 b7;have i3:Bl W6 d5:=bt h7 b7;have z45:J w4.1<=J w5.1:=d9.size;have D9:J w5.1<=J w6.1:=k5.size;have z66:J w6.1<=J W6.1:=e4.size;have F5:J W6.1<=d5.1.size:=i3.size;have i4:Bl b1 d5:=bt g7 (bt b9 b7);have G8:J W6.1<=b1.1.size:=d4.size;have E0:b1.1.size<=d5.1.size:=i4.size;go_wp2_with fail;apply (Jl (E tl) (λi hi=>(h5.sh i hi).kp (Mk.zu l3)) HB.o).mono;rintro e E1 ⟨E2,rfl,z4,m13⟩;have l4:=(k7.o.zz i3).frG m13.fr D9;obtain⟨s0,s1,s2,s3,s4,s5⟩:=l4.six;have l5:=(t7.kp (Mk.zu (bt e4 i3))).kpA m13;have z5:=m13.fr.size;go_wp2_with fail;apply (qCA E2 (E bs) (E ps) (E hs) (E ws) x y l5 C7 C5 C6 r9 Oo).mono;rintro e z7 ⟨z8,rfl,z9,m14⟩;clear s0 s1 s2 s3 s4 s5;have A0:=m14.fr.size;have A1:OwnI z7 (J W6.1) hd:=by
  have A2:=g6.zz i4;have F6:=A2.lt;exact(A2.A (m13.fr.block _ Oo (Or.inr Oo)) z5).A (m14.fr.block _ Oo (Or.inr Oo)) A0
 go_wp2_with fail;apply (yY _ _ (E hd) z8 (A1.sh (nR _) g6.lt) Oo Oo).mono;rintro e e8 ⟨rfl,d6⟩;have F7:=d6.fr.size;have o8:RQ e8 b1.1.size (Z a7 (E GT) c7) us GT:=(((q7.zz (bt b9 b7)).frJ m13.fr Oo).frJ m14.fr Oo).frJ d6.fr (nR _);have i5:e8.ownsRow b1.1.size 3 1 (Z k8 (E GV) k9) (E GV) (GV.map ai):=fW (fW (fW (qB o7 (bt b9 b7)) m13.fr Oo) m14.fr Oo) d6.fr (nR _);have i6:Bl w4 e8:=(bt d9 l3).trans ((m13.fr.belJ Oo).trans (((m14.fr.belJ Oo).mono z45).trans ((d6.fr.belJ Oo).mono Oo)));have G9:¬(((z8+E hd:Nat):Int)<0):=Oo;go_wp2_with fail;apply (KE.o _ _ _ (o8.rs.iss (bJ _ _)) (h4.zz i6)).mono;rintro e A3 ⟨rfl,e5⟩;go_wp2_with fail;apply (KV.o _ _ _ ((qN i5).zz e5) (n7.zz (bt i6 e5))).mono;rintro e A4 ⟨rfl,o9⟩;have e9:=bt e5 o9;have p1:=qB i5 e9;have e6:=o8.zz e9;have E3:zI GT (E GT)<=60000:=j5;go_wp2_with fail;have A5:=qJJ 1 e6 (λi j E4 hj g h1=>e6.ap i j E4 hj g h1) Oo Oo Oo Oo;apply A5.mono;rintro e i8 ⟨rfl,m16⟩;have A6:i8.ownsRow b1.1.size 3 1 (Z k8 (E GV) k9) (E GV) (GV.map ai):=qD p1 λg hg=>m16.far g λi hi e=>n9 i hi g e.symm hg;have p2:=qDo _ (1+(zI GT (E GT))) A6 Oo Oo Oo;have p3:∀b8:oX,(∀b,Q b≠(Value.slice k8 (E GV) k9).ownBlock->b8.1[b]?=i8.1[b]?)->b8.1.size=i8.1.size->Cl 19 #[Z a7 (E GT) c7,ai 1] b8 λe w''=>e=rE (ai (1+zI GT (E GT)))/\w''=b8:=λb8 hf F8=>qJK (W:=b8) (Z a7 (E GT) c7) (vs:=us) (ls:=GT) 1 ⟨_,_,rfl⟩ (λi hi=>by
  obtain⟨g,cap,e,-,hc⟩:=e6.get hi;refine⟨g,cap,e,?_⟩;have ht:=qK e6.z (g:=g) (by rw[e];rfl);exact(bF (w:=i8) (a:=(az g i)) (hf g (own_ne p1 ht Dd))).trans ((bF (w:=A4) (a:=(az g i)) (m16.far g λi hi=>own_ne (e6.l i hi) ht Dd)).trans hc)) (λi hi=>by
  obtain⟨a,c,e⟩:=xT (e6.l i hi);exact⟨a,_,c,e⟩) (λi hi=>m16.held i hi b8 (λq hq=>hf q λe=>n9 i hi q hq e.symm) Oo) Oo Oo Oo Oo
 obtain⟨LQ,A7⟩:=Ex (zI GT (E GT));rw[<-A7]at p3 p2 E3 ⊢;clear A7 j5 A5;have A8:=ay p3;have A9:=ay p2;clear p3 p2;go_wp2_with fail;apply A9.o.mono;rintro e a6 ⟨rfl,l6,l7,l8,l9⟩;have B0:=ay (A8.o a6 l6 l7);have B1:=ay (l9 a6 (λ_ _=>rfl) (nR _));clear A8 A9;go_wp2_with fail;apply B0.o.mono;rintro e b8 ⟨rfl,i9⟩;obtain rfl:a6=b8:=i9.symm;have i17:¬((1:Int)+(LQ:Int)<0):=Oo;go_wp2_with fail;apply B1.o.mono;rintro e b8 ⟨rfl,i9⟩;obtain rfl:a6=b8:=i9.symm;have H0:¬((1:Int)+(LQ:Int)+(E GV:Int)<0):=Oo;have F9:=e9.size;have j0:Bl w4 a6:=((bt i6 e9).trans (m16.O.mono Oo)).trans (l8.mono Oo);have c8:Bl W0 a6:=d8.trans (j0.mono d8.size);clear B0 B1 l6 l7 l8 l9 A6 p1 i5 o7 n9 o8 e6 m16 A1 i7 q7 h5 h9 m13 m14 d6 l5 t7 n8 x4 l4 k7 o3 l0 z4 z9 g6;go_upto_region 41 with fail;go_cut [22,23] (λv8 v9 wx=>∃(a:Option Addr) (c:Nat) (av:Option Addr) (cv:Nat),v8=Z a (E GT) c/\v9=Z av (E GV) cv/\Hh (ISS wx (Z a (E GT) c) GT/\IS wx (Z av (E GV) cv) GV/\Bl a6 wx))
 case first=>
  obtain⟨s0,s1,s2,s3,s4,s5⟩:=d1.o a6.drew (bt c8 (a8 _));have n5:=ay (KT.o a6.drew (bt c8 (a8 _)));clear KS KE KV j6 n4 HT HB K7;go_region_law (first
   |(go_simp;go_at_call 7;apply n5.o.mono;rintro e p4 ⟨rfl,E5,B2,p5⟩;have f7:Bl a6 p4:=bt (a8 _) p5;obtain⟨r0,r1,r2,r3,r4,r5⟩:=d1.o p4 (bt c8 f7))
   |(go_simp;go_at_call 8;apply (KP.o p4 (bt c8 f7)).mono;rintro e E6 ⟨f0,f1,f2,f3,rfl,B3,m0,-⟩;have p6:=bt c8 (bt f7 m0))
   |(go_simp;go_at_call 9;apply (K2.o E6 p6).mono;rintro e B4 ⟨rfl,B5,j1⟩;have m1:=bt m0 j1)
   |(go_simp;go_at_call 10;apply (KI.o B4 _ _ _ _ _ _ (E5.zz B2 m1) (B3.zz j1) B5).mono;rintro e p7 ⟨a20,p8,m3,m4,G0,rfl,E7,E8,-,d7⟩;have E9:ISS p7 (Z a20 (E GT) p8) GT:=E7.rs.iss (bJ _ _))
   |fail)
  all_goals(go_wp2;go_meet)
  all_goals exact⟨a20,p8,m3,m4,rfl,rfl,ay ⟨E9,qN E8,bt (bt f7 m1) d7⟩⟩
 case rest=>
 obtain⟨a20,p8,m3,m4,rfl,rfl,HC⟩:=hcut;generalize wc=p7 at *;obtain⟨F1,B7,d7⟩:=HC.o;clear HC;go_wp2_with fail;apply (KE.o p7 _ _ F1 (h4.zz (bt j0 d7))).mono;rintro e B8 ⟨rfl,e7⟩;go_wp2_with fail;refine(KV.o B8 _ _ (B7.zz e7) (n7.zz (bt (bt j0 d7) e7))).mono ?_;rintro e H1 ⟨rfl,p9⟩;have B9:=bt e7 p9;have F2:=bt (bt c9.o c8) (bt d7 B9);go_wp2;go_ret;exact⟨rfl,F2⟩
end Go.Proofs.YtfpjpngjikdaoaaGreat
namespace Go.Proofs.YtfpjpngjikdaoaaGreat.FAgg
open Go.ChangeShapes Go.WideShapes Go.ChangeAt Go.RowKit Go.Joins
def lifted(os:Os)(started:os.Started)(H:Type)(enc:TypeId×oV->H):
 ReturnsInHanded {} Tryz.checked os 3 .any (Rows.fnExactAggregateSpec.pre6 enc wD Tryz.f3 Rows.fnExactAggregateRow.domain nF) (Rows.fnExactAggregateSpec.post enc wD Tryz.f3 nF true nF nF):=by
 refine returnsInHanded_of_change (C:=Tryz.checked) Tryz.ownK started Kl Tryz.func3
  (ChangeSpec.witness6 (enc:=enc) (C:=Tryz.checked) nF ⟨#[],#[ai 0,sn,aQ #[sn,sn,sn,sn,ai 0,ai 0],sn,ai 0],[]⟩ 8 Kl Kl Kl Kl) ?_
 intro W base args ds gs before a5 hW _ _;have a4:∀(j:Nat) t v,Tryz.f3.params[j]?=Q t->args[j]?=Q v->Value.okWide wD W .any base t v:=a5;have b8:=hW;obtain⟨p,q,a6,hV,rfl,_,_⟩:=hW;have hA:DataW.TrodAll enc wD W 0 (λ_=>true) true Tryz.f3.params.toList args.toList ds p:=a6;rw[Tryz.params3]at hA a4;obtain⟨v0,c9,d0,d5,p0,q0,b9,rfl,rfl,h0,r0⟩:=trodAll_cons hA;obtain⟨v1,d6,d1,d7,p1,q1,rfl,rfl,rfl,h1,r1⟩:=trodAll_cons r0;obtain⟨v2,d8,d2,d9,p2,q2,rfl,rfl,rfl,h2,r2⟩:=trodAll_cons r1;obtain⟨v3,e0,d3,e1,p3,q3,rfl,rfl,rfl,h3,r3⟩:=trodAll_cons r2;obtain⟨v4,e2,d4,e3,p4,q4,rfl,rfl,rfl,h4,r4⟩:=trodAll_cons r3;obtain⟨rfl,rfl,rfl⟩:=trodAll_nil r4;obtain rfl:args=#[v0,v1,v2,v3,v4]:=by cases args;simp_all
 obtain⟨rfl,rfl⟩:=trodVars_none hV;have k0:=h0;have k1:=h1;have k2:=h2;have k3:=h3;have k4:=h4;have lt0:∀x∈p0,x.block<J W.1:=by obtain⟨m,hm⟩:=k0;exact DataW.trod_lt m _ _ _ hm
 have lt1:∀x∈p1,x.block<J W.1:=by obtain⟨m,hm⟩:=k1;exact DataW.trod_lt m _ _ _ hm
 have lt2:∀x∈p2,x.block<J W.1:=by obtain⟨m,hm⟩:=k2;exact DataW.trod_lt m _ _ _ hm
 have lt3:∀x∈p3,x.block<J W.1:=by obtain⟨m,hm⟩:=k3;exact DataW.trod_lt m _ _ _ hm
 have c7:∀x∈p4,x.block<J W.1:=by obtain⟨m,hm⟩:=k4;exact DataW.trod_lt m _ _ _ hm
 obtain⟨k,rfl,-,-,-⟩:=open_int Tryz.underlying3 (a4 0 3 v0 rfl rfl) h0;obtain⟨a1,a7,a8,rfl⟩:=okWide_slice Tryz.underlying22 (a4 1 22 v1 rfl rfl);obtain⟨tl,i1,f1,t1,w1⟩:∃tl,ITs W (Z a1 a7 a8) tl/\E tl<=9223372036854775807/\(∀t∈tl,TvF t)/\∀t∈tl,Wf t.x:=by
  obtain⟨fuel,hf⟩:=h1;exact JY (by simpa[Value.cells]using hf)
 obtain⟨cs,rfl,c8⟩:=okWide_struct Tryz.underlying29 (a4 2 29 v2 rfl rfl);obtain⟨c0,c1,c2,c3,c4,c5,rfl⟩:=qHg (c8.trans Tryz.cellsPl);obtain⟨u0,u1,u2,u3,a,b,bs,ps,hs,ws,a9,i2,g0,g1,g2,g3⟩:∃v0 v1 v2 v3 a b bs ps hs ws,[c0,c1,c2,c3,c4,c5]=[v0,v1,v2,v3,ai a,ai b]/\IPl W v0 v1 v2 v3 bs ps hs ws/\Fits bs/\E ps<=9223372036854775807/\E hs<=9223372036854775807/\E ws<=9223372036854775807:=by
  obtain⟨fuel,hf⟩:=h2;exact qAU (by simpa[Value.cells]using hf)
 simp only[mS,iB]at a9;obtain⟨rfl,rfl,rfl,rfl,rfl,rfl⟩:=a9;obtain⟨a3,b1,b7,rfl⟩:=okWide_slice Tryz.underlying24 (a4 3 24 v3 rfl rfl);obtain⟨hd,i3,f3⟩:∃l,IS W (Z a3 b1 b7) l/\E l<=9223372036854775807:=by
  obtain⟨fuel,hf⟩:=h3;exact y6 (by simpa[Value.cells]using hf)
 obtain⟨ring,rfl,-,-,-⟩:=open_int Tryz.underlying3 (a4 4 3 v4 rfl rfl) h4;clear a6 a5;refine(fy W _ c0 c1 c2 c3 _ k a b ring tl bs ps hs ws hd i1 i2 f1 t1 g0 g1 g2 g3 w1 i3 f3).mono λe W' ⟨he,bel⟩=>?_;subst he;exact⟨_,rfl,_,_,_,[],_,[],b8,trodAll_mk1 (shut_bool Tryz.underlying4 _),(tK (Below.trod Tryz.laidO Kl (aN Kl) k0 bel lt0) (tK (Below.trod Tryz.laidO Kl (aN Kl) k1 bel lt1) (tK (Below.trod Tryz.laidO Kl (aN Kl) k2 bel lt2) (tK (Below.trod Tryz.laidO Kl (aN Kl) k3 bel lt3) (tK (Below.trod Tryz.laidO Kl (aN Kl) k4 bel c7) trodAll_mk0))))),rfl,bel.frame _,λh=>by cases h⟩
end Go.Proofs.YtfpjpngjikdaoaaGreat.FAgg
namespace Go.Proofs.YtfpjpngjikdaoaaGreat
theorem fnExactAggregate_holds:Rows.FnExactAggregateSaid:=
 OpenClaim.holds_of_wide 3 Tryz.f3 rfl rfl rfl rfl rfl rfl rfl ⟨rfl,rfl,rfl,rfl,rfl⟩ rfl rfl rfl rfl rfl Kl Tryz.func3 Kl
  (aN Kl) (by unfold Func.isWrapper;first|(rw[fE (by decide+kernel)];kernel_rfl)|(rw[fF (by decide+kernel)];exact⟨rfl,rfl⟩))
  (λos started H enc _=>FAgg.lifted os started H enc)
#print axioms fnExactAggregate_holds
