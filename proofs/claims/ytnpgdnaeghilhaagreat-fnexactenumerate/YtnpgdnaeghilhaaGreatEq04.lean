import Derived.Ground.SlsfProg
import Derived.Lib.SliceRun
import Derived.Shelf.SlGeneric
import Derived.Shelf.SlSortCmp.Whole1
import Derived.Test.YtnpgdnaeghilhaaGreatEq03
import Derived.Deep.CutBlock
import Derived.Deep.DeepCutAuto
import Derived.Deep.RegionHeldLaw
import Derived.Laws.Bits64b
import Derived.Laws.CopyOwn
import Derived.Laws.MakeOwn
import Derived.Laws.OwnMore
import Derived.RangeFuncBound
import Derived.RangeFuncCalls
import Derived.RangeFuncLeaves
import Derived.RangeFuncNested
set_option maxHeartbeats 40000000
set_option maxRecDepth 1000000
namespace Go.Proofs
open Go.Shelf Tryz YtnpgdnaeghilhaaGreat
def Tryz.sortRows_ren:Ren:=⟨λ|6=>185|15=>163|14=>230|28=>205|29=>206|20=>241|21=>242|22=>243|23=>244|24=>245|25=>246|26=>247|27=>248|46=>251|47=>233|48=>234|49=>252|50=>253|57=>254|n=>n,λ|22=>23|24=>24|25=>103|3=>3|39=>224|0=>0|53=>272|55=>275|4=>4|46=>281|45=>280|50=>217|5=>5|9=>9|66=>300|70=>304|76=>313|77=>314|n=>n,λ|n=>n⟩
theorem Tryz.sortRows:SlLaysF.n6 prog sortRows_ren:=⟨Kl,⟨f185.1,Dd,tS func185⟩,⟨f230.1,Dd,tS func230⟩,tS func163,⟨f241.1,Dd,tS func241⟩,⟨f242.1,Dd,tS func242⟩,⟨f243.1,Dd,tS func243⟩,⟨f244.1,Dd,tS func244⟩,⟨f245.1,Dd,tS func245⟩,⟨f246.1,Dd,tS func246⟩,⟨f247.1,Dd,tS func247⟩,⟨f248.1,Dd,tS func248⟩,tS func205,tS func206,⟨f251.1,Dd,tS func251⟩,tS func233,tS func234,⟨f252.1,Dd,tS func252⟩,⟨f253.1,Dd,tS func253⟩,⟨f254.1,Dd,tS func254⟩,underlying0,isAgg0,sizeOf0,zeroValue0,underlying3,isAgg3,sizeOf3,zeroValue3,underlying4,isAgg4,sizeOf4,zeroValue4,underlying5,isAgg5,sizeOf5,zeroValue5,underlying9,isAgg9,sizeOf9,zeroValue9,underlying23,isAgg23,sizeOf23,zeroValue23,isAgg24,sizeOf24,underlying103,isAgg103,sizeOf103,zeroValue103,underlying224,isAgg224,sizeOf224,zeroValue224,underlying280,isAgg280,sizeOf280,zeroValue280,underlying281,isAgg281,sizeOf281,zeroValue281,underlying217,isAgg217,sizeOf217,zeroValue217,underlying272,isAgg272,sizeOf272,zeroValue272,underlying275,isAgg275,sizeOf275,zeroValue275,underlying300,isAgg300,sizeOf300,zeroValue300,underlying304,isAgg304,sizeOf304,zeroValue304,underlying313,isAgg313,sizeOf313,zeroValue313,underlying314,isAgg314,sizeOf314,zeroValue314⟩
end Go.Proofs
namespace Go.Proofs.YtnpgdnaeghilhaaGreat
open Go.Proofs.Tryz Go.RowKit
variable {B b c i:Nat}{e:TypeId}{w:World}
theorem qIR{α}(f:α->LI):Sort.SWO (ltOf λa b=>cmpL (f a) (f b)) where
 irrefl x:=by simp[ltOf,zj]
 trans x y z h1 h2:=by
  simp only[ltOf,dE]at *;exact zi h1 h2
 ntrans x y z h1 h2:=by
  simp only[ltOf,aP]at *;intro I;have K:=yU (f x) (f y);have M:=yU (f y) (f z);rcases Int.lt_trichotomy (cmpL (f y) (f x)) 0 with a|a|a;exact h2 (zi a I);rw[<-cmpL_eq a]at I;exact h2 I;omega
section
variable {α:Type} [Inhabited α]
theorem qC8{enc blk off m}{K:Array α}{os}(hb:b<w.1.size)(I:b≠blk):(sortWorld enc w blk off m K os).1[b]?=w.1[b]?:=by
 show(((w.1.modify blk _)++os)[b]?)=_;rw[Array.getElem?_append_left (by simpa using hb),Array.getElem?_modify,fF (Ne.symm I)]
theorem qJZ{enc blk off m}{K:Array α}{os}{cur:AV}{fr}(h:w.1[blk]?=some (.cells cur e fr)):(sortWorld enc w blk off m K os).1[blk]?=some (.cells (Sort.putCells enc off K cur) e fr):=by
 have hb:blk<w.1.size:=by
  rcases dL blk w.1.size with I|I;exact I;rw[dO I]at h;cases h
 show(((w.1.modify blk _)++os)[blk]?)=_;rw[Array.getElem?_append_left (by simpa using hb),Array.getElem?_modify,fE rfl,h];rfl
theorem qIS{enc blk off m}{I:Array α}{os}:w.1.size<=(sortWorld enc w blk off m I os).1.size:=by
 show w.1.size<=((w.1.modify blk _)++os).size;simp
end
def RowP(w:World)(B:Nat):Type:={ p:Value×LI // w.ownsRow B 3 1 p.1 p.2.length (p.2.map ai)/\p.2.length<=1099511627776 }
def RowP.enc(p:RowP w B):Value:=p.1.1
def RowP.row(p:RowP w B):LI:=p.1.2
theorem RowP.one(p:RowP w B):(RowP.enc p).oneCell'=true:=by
 obtain⟨⟨v,l⟩,h,-⟩:=p;show v.oneCell'=true;obtain⟨a,cap,rfl⟩:∃a cap,v=.slice a l.length cap:=by
  have I:w.ownsRow B 3 1 v l.length (l.map ai):=h;clear h;rcases I.2 with ⟨rfl,K⟩|⟨g,cap,cur,rfl,_⟩;exact⟨none,0,by rw[K]⟩;exact⟨_,cap,rfl⟩
 rfl
theorem Uc w B g cap us{ls}(h:RQ w B (sZ g 0 ls.length cap) us ls)(hM:∀i,i<ls.length->(ls.getD i []).length<=1099511627776)(hn:ls.length<=1000000):
 aF 185 #[sZ g 0 ls.length cap,.func (.func 131) #[] #[]] w (.tuple #[]) λw'=>∃c8 a5,RQ w' B (sZ g 0 ls.length cap) c8 a5/\a5.length=ls.length/\(∀z,z∈a5↔z∈ls)/\(a5.Pairwise λa b=>¬cmpL b a<0)/\Below B w w':=by
 have inh:Inhabited (RowP w B):=⟨⟨(sn,[]),oN _ _ _ _,Ss⟩⟩
 obtain⟨f,hf⟩:∃f:Fin ls.length->RowP w B,∀i,RowP.enc (f i)=us.getD i undef/\RowP.row (f i)=ls.getD i []:=⟨λi=>⟨(us.getD i undef,ls.getD i []),h.each i i.2,hM i i.2⟩,λi=>⟨rfl,rfl⟩⟩;have⟨d,hd⟩:=Ex (Array.ofFn f);have hsz:d.size=ls.length:=by rw[hd];exact Array.size_ofFn
 have I:∀j,j<ls.length->RowP.enc d[j]! =us.getD j undef/\RowP.row d[j]! =ls.getD j []:=λj O=>by
  rw[getElem!_pos d j Oo];subst hd;rw[Array.getElem_ofFn];exact hf ⟨j,O⟩
 obtain⟨hB,cur,K,b1,b7,c9,d2⟩:B<=g/\∃cur,w.1[g]?=some (.cells cur 24 (0,0))/\ls.length<=cap/\cap<=maxLen/\cur.size=cap*1/\cur.toList.take (ls.length*1)=us:=by
  rcases h.own.2 with ⟨e,-⟩|⟨g',b8,cur,e,hb',hc,h1,h2,h3,h4⟩;cases e
  simp only[vI,oI,Addr.mk.injEq,true_and,and_true]at e;obtain⟨rfl,rfl⟩:=e;exact⟨hb',cur,hc,h1,h2,h3,h4⟩
 have d0:g<w.1.size:=by
  rcases dL g w.1.size with h1|h1;exact h1;rw[dO h1]at K;cases K
 have hH:Sort.Holds RowP.enc w g 0 d:=λj O=>by
  rw[hsz]at O;obtain⟨g',b8,e,-,hc⟩:=h.get O;simp only[vI,oI,Addr.mk.injEq,and_true,true_and]at e;obtain⟨rfl,rfl⟩:=e;refine⟨by rw[cU,(I j O).1];exact hc,?_⟩;unfold World.frozen?;rw[K];simp
 have far:∀(m:Nat) (os:Array Obj) (dk:Array (RowP w B)) (p:RowP w B),(sortWorld RowP.enc w g 0 m dk os).ownsRow B 3 1 (RowP.enc p) (RowP.row p).length ((RowP.row p).map ai):=λm os dk p=>
  qD p.2.1 λq hq=>qC8 (p.2.1.lt q hq).2 (by
   rintro rfl;exact own_ne p.2.1 ⟨_,K⟩ Dd hq.symm)
 have hcmp:CmpReads Tryz.prog 131 #[] RowP.enc (λx y=>cmpL (RowP.row x) (RowP.row y)) g 0 d.size w:=λm os dk _ x y=>by
  apply (yy _ _ (qN (far m _ _ x)) (qN (far m os dk y)) x.2.2 y.2.2).mono;rintro e w' ⟨rfl,rfl⟩;exact⟨rfl,0,rfl⟩
 have a7:=Any.slices_SortFunc Tryz.sortRows _ (λp=>RowP.one p) _ (qIR RowP.row) 131 _ g 0 cap d w (enters_of func131 Kl rfl) hcmp.lays hH d0 Oo;rw[hsz]at a7;apply a7.mono;rintro e w' ⟨rfl,M,m,os,⟨p1,-,p3⟩,hs,rfl⟩;have V:=p1.trans hsz;have a3:M.toList.Perm d.toList:=by
  have e1:M.extract 0 ls.length=M:=by rw[<-V];exact Array.extract_size ..
  have e2:d.extract 0 ls.length=d:=by rw[<-hsz];exact Array.extract_size ..
  rw[e1,e2]at p3;exact p3
 have a8:d.toList.map RowP.row=ls:=by
  refine List.ext_getElem? λi=>?_;by_cases hi:i<ls.length;have:=(I i hi).2;rw[getElem!_pos d i Oo]at this;rw[bK,dY,dC Oo,gE hi,Option.map_some,this,gD,gE hi];rfl;rw[gN Sy,gN Oo]
 have d1:d.toList.map RowP.enc=us:=by
  refine List.ext_getElem? λi=>?_;have hl:=h.len;by_cases hi:i<ls.length;have:=(I i hi).1;rw[getElem!_pos d i Oo]at this;rw[bK,dY,dC Oo,gE Oo,Option.map_some,this,gD,gE Oo];rfl;rw[gN Sy,gN Oo]
 have a6:(M.toList.map RowP.row).length=ls.length:=by simp[V]
 have a9:M.toList.Pairwise λp q=>∀g,(RowP.enc p).ownBlock=some g->(RowP.enc q).ownBlock≠some g:=by
  refine(a3.symm.pairwise_iff λ{p q} h1 g h2 h3=>h1 g h3 h2).1 ?_;rw[List.pairwise_iff_getElem];intro i j hi O a4 g h1;simp only[Array.length_toList]at hi O;have b9:=(I i Oo).1;have c7:=(I j Oo).1;rw[getElem!_pos d i Oo]at b9;rw[getElem!_pos d j Oo]at c7;rw[Array.getElem_toList,b9]at h1;rw[Array.getElem_toList,c7];exact h.ap i j a4 Oo g h1
 refine⟨rfl,M.toList.map RowP.enc,M.toList.map RowP.row,⟨?_,Ss,λi hi=>?_,λi j a4 O g=>?_⟩,a6,λz=>?_,?_,?_⟩
 .rw[a6];refine⟨by simp[V],.inr ⟨g,cap,_,rfl,hB,qJZ K,b1,b7,?_,?_⟩⟩;unfold Sort.putCells;simp[c9];refine List.ext_getElem? λi=>?_;rw[Nat.mul_one];by_cases hi:i<ls.length;rw[cL hi,dY];unfold Sort.putCells;rw[Array.getElem?_mapIdx,dC Oo,Option.map_some,fE ⟨eC,Oo⟩,bK,dY,dC Oo,Option.map_some,Nat.sub_zero,getElem!_pos M i Oo];rw[gN (by rw[bZ];omega),gN Sy]
 .rw[a6]at hi;have e1:(M.toList.map RowP.enc).getD i undef=RowP.enc M[i]:=by rw[gD,bK,dY,dC Oo];rfl
  have e2:(M.toList.map RowP.row).getD i []=RowP.row M[i]:=by rw[gD,bK,dY,dC Oo];rfl
  rw[e1,e2];exact far _ _ _ _
 .rw[a6]at O;have e1:∀i (hi:i<ls.length),(M.toList.map RowP.enc).getD i undef=RowP.enc M[i]:=λi hi=>by rw[gD,bK,dY,dC Oo];rfl
  rw[e1 i Oo,e1 j O];have:=(List.pairwise_iff_getElem.1 a9) i j Sy Sy a4 g;rw[Array.getElem_toList,Array.getElem_toList]at this;exact this
 rw[(a3.map RowP.row).mem_iff,a8];rw[List.pairwise_map,List.pairwise_iff_getElem];intro i j hi O a4;simp only[Array.length_toList]at hi O;have:=hs i j eC a4 Oo;rw[getElem!_pos M j Oo,getElem!_pos M i Oo]at this;rw[Array.getElem_toList,Array.getElem_toList];simpa[ltOf]using this;exact⟨rfl,rfl,rfl,qIS,λb hb=>qC8 Oo Oo⟩
theorem qAS{I lb:LI}(hl:I.length=lb.length)(h:∀i,i<I.length->I.getD i 0=lb.getD i 0):I=lb:=by
 refine List.ext_getElem hl λi K M=>?_;have:=h i K;rw[gD,gE K,gD,gE M]at this;exact this
theorem Zo w{va vb I lb}(ha:IS w va I)(hb:IS w vb lb)(hl:I.length<=1099511627776)(a5:lb.length<=1099511627776):
 aF 112 #[va,vb] w (.bool (decide (I=lb))) λw'=>∃q,w'=w.drewN q:=by
 obtain⟨a,cap,rfl,hc⟩:=ha;obtain⟨a',a7,rfl,M⟩:=hb;by_cases hlen:I.length=lb.length
 .have HF:Hh (∀j,j<I.length->¬I.getD j 0=lb.getD j 0->decide (I=lb)=false):=λj _ e=>by
   rw[aP];rintro rfl;exact e rfl
  have HT:Hh ((∀j,j<I.length->I.getD j 0=lb.getD j 0)->decide (I=lb)=true):=λh=>by rw[dE];exact qAS hlen h
  generalize decide (I=lb)=res at *;rw[<-hlen]at M a5 |-;have⟨n,hn⟩:=Ex I.length;rw[<-hn]at hc M hl HF HT |-;have HC:=ay hc;have a6:=ay M;clear hc M hn hlen a5;go_enter func112,ntmps112;go_wp2;go_loopw [13] (λt wr=>∃j:Nat,j<=n/\t=ai j/\Hh (∃k,wr=w.drewN k)/\Hh (∀i,i<j->I.getD i 0=lb.getD i 0)) (λt _=>n-(intOf t).toNat);exact⟨0,eC,rfl,ay ⟨0,rfl⟩,ay (λi hi=>Oo)⟩;obtain⟨j,hj,rfl,hB,a3⟩:=hrel;by_cases a4:j<n
  .have i1:=aV a4;rcases HC.o with h0|⟨b,o,rfl,O⟩;omega;rcases a6.o with h0|⟨b',o',rfl,K⟩;omega;have c1:aC wr b (o+j) (ai (I.getD j 0)):=by obtain⟨k,rfl⟩:=hB.o;exact O j a4
   have c2:aC wr b' (o'+j) (ai (lb.getD j 0)):=by obtain⟨k,rfl⟩:=hB.o;exact K j a4
   have fin:=HF j a4;have nxt:I.getD j 0=lb.getD j 0->Hh (∀i,i<j+1->I.getD i 0=lb.getD i 0):=λe=>ay λi hi=>by
    by_cases e2:i=j;rw[e2];exact e;exact a3 i Oo
   clear O K a3;generalize I.getD j 0=x,lb.getD j 0=y at *;by_cases V:x=y
   .have hf:=nxt V;subst V;clear fin nxt;have e0:(x != x)=false:=Ss;go_wp2_with fail;go_quiet (fail)
    go_wp2;go_roundw;exact⟨j+1,Oo,Gg,ay (zh hB),hf⟩;exact Im
   have hf:=ay (fin V);clear fin nxt;have e0:(x != y)=true:=by simp[V]
   go_wp2_with fail;go_quiet (fail)
   go_wp2;go_ret;exact⟨qJ (by rw[hf.o]),zh hB⟩
  obtain rfl:j=n:=Oo;have hf:=ay (HT a3);have i1:=aY j;go_wp2;go_ret;exact⟨qJ (by rw[hf.o]),hB⟩
 have hf:decide (I=lb)=false:=by rw[aP];rintro rfl;exact hlen rfl
 rw[hf];have i1:¬((I.length:Int)=(lb.length:Int)):=Oo;have i2:((I.length:Int) != (lb.length:Int))=true:=Sy;clear hc M hf;generalize I.length=m,lb.length=m' at *;go_enter func112,ntmps112;go_wp2;go_ret;exact⟨rfl,0,rfl⟩
def Ap'(u v:Value):Prop:=∀g,u.ownBlock=some g->v.ownBlock≠some g
structure Cst(w wr:World)(B g cap:Nat)(us:LV)(ls:LL)(k j:Nat)(uo:LV):Prop where
 os:wr.os=w.os
 tape:wr.tape=w.tape
 output:wr.output=w.output
 size:wr.1.size=w.1.size
 far:∀b,b≠g->wr.1[b]?=w.1[b]?
 typ:∃cur,wr.1[g]?=some (.cells cur 24 (0,0))/\cur.size=cap
 len:uo.length=k
 lk:(cpt (ls.take j)).length=k
 kj:k<j
 jn:j<=ls.length
 head:∀p,p<k->wr.cell? (az g p)=some (uo.getD p undef)
 tail:∀p,j<=p+1->p<ls.length->wr.cell? (az g p)=some (us.getD p undef)
 each:∀p,p<k->w.ownsRow B 3 1 (uo.getD p undef) ((cpt (ls.take j)).getD p []).length (((cpt (ls.take j)).getD p []).map ai)
 ap:∀p q,p<q->q<k->Ap' (uo.getD p undef) (uo.getD q undef)
 apt:∀p q,p<k->j<=q->q<ls.length->Ap' (uo.getD p undef) (us.getD q undef)
section
variable {w wr:World} {B g cap k j:Nat} {us uo:LV} {ls:LL}
theorem Cst.drewN(h:Cst w wr B g cap us ls k j uo)m:Cst w (wr.drewN m) B g cap us ls k j uo:=⟨h.os,h.tape,h.output,h.size,h.far,h.typ,h.len,h.lk,h.kj,h.jn,h.head,h.tail,h.each,h.ap,h.apt⟩
theorem Cst.skip(h:Cst w wr B g cap us ls k j uo)(K:j<ls.length)(e:ls.getD (j-1) []=ls.getD j []):Cst w wr B g cap us ls k (j+1) uo:=by
 have hkj:=h.kj;obtain⟨i,rfl⟩:∃i,j=i+1:=⟨j-1,Oo⟩;have M:cpt (ls.take (i+1+1))=cpt (ls.take (i+1)):=qCi K (by simpa using e);exact⟨h.os,h.tape,h.output,h.size,h.far,h.typ,h.len,by rw[M];exact h.lk,Oo,K,h.head,λp O I=>h.tail p Oo I,by rw[M];exact h.each,h.ap,λp q O hq I=>h.apt p q O Oo I⟩
theorem yB{α:Type}{l}{x d:α}(h:i<l.length):(l++[x]).getD i d=l.getD i d:=by
 rw[gD,aL h,<-gD]
theorem yV{α:Type}{l}{x d:α}(h:i=l.length):(l++[x]).getD i d=x:=by
 rw[gD,bQ Oo,show i-l.length=0 by omega];rfl
theorem Cst.keep(h:Cst w wr B g cap us ls k j uo)(hR:RQ w B (sZ g 0 ls.length cap) us ls)(O:j<ls.length)(e:¬ls.getD (j-1) []=ls.getD j []):Cst w (wr.setCell (az g k) (us.getD j undef)) B g cap us ls (k+1) (j+1) (uo++[us.getD j undef]):=by
 have hkj:=h.kj;have hl:=h.len;have K:=h.lk;obtain⟨i,rfl⟩:∃i,j=i+1:=⟨j-1,Oo⟩;have hc:cpt (ls.take (i+1+1))=cpt (ls.take (i+1))++[ls.getD (i+1) []]:=K9 O (by simpa using e);have a3:=h.tail k;refine⟨h.os,h.tape,h.output,by rw[World.size_setCell];exact h.size,λb hb=>(eG hb).trans (h.far b hb),?_,by simp[hl],by rw[hc];simp[K],Oo,O,λp hp=>?_,λp hp V=>?_,λp hp=>?_,λp q a4 hq=>?_,λp q hp hq V=>?_⟩;have⟨cur,M,h2⟩:=h.typ;exact⟨_,eN M,by simp[h2]⟩
 .by_cases I:p=k
  .subst I;rw[yV hl.symm];have⟨cur,M,h2⟩:=h.typ;have hex:∃u,wr.cell? (az g p)=some u:=by
    rw[eI M];have a8:ls.length<=cap:=by
     rcases hR.own.2 with ⟨e,-⟩|⟨g',a6,a7,e,-,-,a5,-⟩;cases e
     simp only[vI]at e;obtain⟨-,-,rfl⟩:=e;exact a5
    exact⟨_,dC Oo⟩
   have⟨u,hu⟩:=hex;exact eJ hu
  rw[yB Oo,eE (by intro e2;simp only[Addr.mk.injEq]at e2;omega)];exact h.head p Oo
 rw[eE (by intro e2;simp only[Addr.mk.injEq]at e2;omega)];exact h.tail p Oo V
 .rw[hc];by_cases I:p=k;subst I;rw[yV hl.symm,yV K.symm];exact hR.each _ O;rw[yB Oo,yB Oo];exact h.each p Oo
 .rw[yB Oo];by_cases I:q=k;subst I;rw[yV hl.symm];exact h.apt p _ Oo eA O;rw[yB Oo];exact h.ap p q a4 Oo
 by_cases I:p=k;subst I;rw[yV hl.symm];exact λg' M=>hR.ap _ q Oo V _ M;rw[yB Oo];exact h.apt p q Oo Oo V
theorem Cst.start(hR:RQ w B (sZ g 0 ls.length cap) us ls){K}(hK:0<K)(a4:K<ls.length)(a5:∀i,i+1<K->¬ls.getD i []=ls.getD (i+1) [])(e:ls.getD (K-1) []=ls.getD K [])m:Cst w (w.drewN m) B g cap us ls K (K+1) (us.take K):=by
 obtain⟨i,rfl⟩:∃i,K=i+1:=⟨K-1,Oo⟩;have hl:=hR.len;have hc:cpt (ls.take (i+1+1))=ls.take (i+1):=(qCi a4 (by simpa using e)).trans (Vu i Oo λq hq=>a5 q Oo);have I:∀p,p<ls.length->aC w g p (us.getD p undef):=λp M=>by
  obtain⟨g',a3,O,-,V⟩:=hR.get M;simp only[vI,oI,Addr.mk.injEq,and_true,true_and]at O;obtain⟨rfl,-⟩:=O;exact V
 refine⟨rfl,rfl,rfl,rfl,λ_ _=>rfl,?_,by rw[bZ];omega,by rw[hc,bZ];omega,Oo,Oo,λp M=>by rw[getD_take M];exact I p Oo,λp _ hn=>I p hn,λp M=>?_,λp q a6 hq=>?_,λp q M hq hn=>?_⟩
 .rcases hR.own.2 with ⟨O,-⟩|⟨g',a3,cur,O,-,V,-,-,h2,-⟩;cases O
  simp only[vI,oI,Addr.mk.injEq,and_true,true_and]at O;obtain⟨rfl,rfl⟩:=O;exact⟨cur,V,Oo⟩
 rw[hc,getD_take M,getD_take M];exact hR.each p Oo;rw[getD_take Oo,getD_take hq];exact λg' V=>hR.ap p q a6 Oo _ V;rw[getD_take M];exact λg' V=>hR.ap p q Oo hn _ V
end
theorem J9{e c}:∀(vs:LV) (o:Nat) (W:World) (m:Nat),(∃cur,W.1[c]?=some (.cells cur e (0,0))/\cur.size=m)->∃cur,(W.setCells c o vs).1[c]?=some (.cells cur e (0,0))/\cur.size=m
 |[],_,_,_,h=>h
 |_::r,o,_,m,h=>J9 r (o+1) _ m (by
  have⟨cur,I,K⟩:=h;exact⟨_,eN I,by simp[K]⟩)
theorem KD{c b}(hb:b≠c):∀(vs:LV) (o:Nat) (W:World),(W.setCells c o vs).1[b]?=W.1[b]?
 |[],_,_=>rfl
 |_::r,o,_=>(KD hb r (o+1) _).trans (eG hb)
theorem Uo{c}:∀(vs:LV) (o:Nat) (W:World),(W.setCells c o vs).1.size=W.1.size
 |[],_,_=>rfl
 |v::r,o,W=>(Uo r (o+1) (sC W c o v)).trans (World.size_setCell _ _ _)
theorem KK{c}:∀(vs:LV) (o:Nat) (W:World),(W.setCells c o vs).os=W.os/\(W.setCells c o vs).tape=W.tape/\(W.setCells c o vs).output=W.output
 |[],_,_=>⟨rfl,rfl,rfl⟩
 |v::r,o,W=>KK r (o+1) (sC W c o v)
theorem Cst.fin{wr g cap k us uo ls}(h:Cst w wr B g cap us ls k ls.length uo)(hR:RQ w B (sZ g 0 ls.length cap) us ls)(vs:LV):
 RQ (wr.setCells g k vs) B (sZ g 0 k cap) uo (cpt ls)/\Below B w (wr.setCells g k vs):=by
 obtain⟨hB,a6,V⟩:B<=g/\ls.length<=cap/\cap<=maxLen:=by
  rcases hR.own.2 with ⟨e,-⟩|⟨g',a7,cur,e,hb',hc,h1,h2,-⟩;cases e
  simp only[vI,oI,Addr.mk.injEq,true_and,and_true]at e;obtain⟨rfl,rfl⟩:=e;exact⟨hb',h1,h2⟩
 have hl:=h.len;have a3:=h.lk;have hkj:=h.kj;have I:=h.each;rw[tL]at a3 I;have⟨cur,K,a8⟩:=J9 vs k _ _ h.typ;have O:=λp hp=>by
  have h1:=h.head p hp;rw[<-World.cell?_setCells_out g vs k wr (az g p) (λ_ _=>.inl hp),eI K]at h1;exact h1
 have M:=λb hb=>(KD hb vs k _).trans (h.far b hb);refine⟨⟨?_,Oo,λi hi=>?_,λi j a5 hj=>h.ap i j a5 Oo⟩,?_⟩
 .rw[a3];refine⟨Oo,.inr ⟨g,cap,cur,rfl,hB,K,Oo,V,Oo,?_⟩⟩;refine List.ext_getElem? λp=>?_;rw[Nat.mul_one];by_cases hp:p<k;rw[cL hp,dY,O p hp,gD,gE Oo];rfl;rw[gN (by rw[bZ];omega),gN Oo]
 .exact qD (I i Oo) λq hq=>M q (by
   rintro rfl;exact own_ne (I i Oo) (qK hR.own rfl) Dd hq.symm)
 have⟨e1,e2,e3⟩:=KK (c:=g) vs k wr;exact⟨e1.trans h.os,e2.trans h.tape,e3.trans h.output,by rw[Uo,h.size];exact eA,λb hb=>M b Oo⟩
theorem Xd w B g cap us{ls}(V:RQ w B (sZ g 0 ls.length cap) us ls)(hM:∀i,(ls.getD i []).length<=1099511627776)(hn:ls.length<=1000000):
 Cl 186 #[sZ g 0 ls.length cap,.func (.func 112) #[] #[]] w λe w'=>∃v uo,e=.returned v/\RQ w' B v uo (cpt ls)/\Below B w w':=by
 have HR:=ay V;have eg:∀args w,(callFunc 112 args).run Tryz.prog w=.ok (.enter 112 args) w:=enters_of func112 Kl rfl;have a7:Hh (∀q,RQ (w.drewN q) B (sZ g 0 ls.length cap) us ls/\Below B w (w.drewN q)):=λq=>⟨⟨V.own,V.len,V.each,V.ap⟩,⟨rfl,rfl,rfl,eA,λ_ _=>rfl⟩⟩;by_cases h2:ls.length<2
 .have hc:cpt ls=ls:=by
   match ls,h2 with
   |[],_=>rfl
   |[x],_=>rfl
  have i1:(ls.length:Int)<2:=Oo;rw[hc];clear V hM;go_enter func186,ntmps186;go_wp2;go_ret;exact⟨_,us,rfl,HR,eB⟩
 obtain⟨c9⟩:ls.length<=cap/\True:=by
  rcases V.own.2 with ⟨e,-⟩|⟨g',d0,cur,e,hb',hc,h1,-⟩;cases e
  simp only[vI]at e;obtain⟨-,-,rfl⟩:=e;exact⟨h1,trivial⟩
 have M:Hh (∀p,p<ls.length->aC w g p (us.getD p undef)):=λp hp=>by
  obtain⟨g',d0,e1,-,h1⟩:=V.get hp;simp only[vI,oI,Addr.mk.injEq,and_true,true_and]at e1;obtain⟨rfl,-⟩:=e1;exact h1
 have a5:Hh (∀p,p<ls.length->∃a c,us.getD p undef=.slice a (ls.getD p []).length c):=λp hp=>by
  rcases (V.each p hp).2 with ⟨e,hn⟩|⟨g,cap,cur,e,_⟩;exact⟨none,0,by rw[e,hn]⟩;exact⟨_,cap,e⟩
 have KQ:Hh (∀(W:World) (p q:Nat),(∀b,b≠g->W.1[b]?=w.1[b]?)->p<ls.length->q<ls.length->∀m,Cl 112 #[us.getD p undef,us.getD q undef] (W.drewN m) λe w'=>e=.returned (.bool (decide (ls.getD p []=ls.getD q [])))/\∃r,w'=(W.drewN m).drewN r):=λW p q hW hp hq m=>by
  have mv:=λi hi=>qN (qD (w':=W.drewN m) (V.each i hi) λb hb=>hW b (by
   rintro rfl;exact own_ne (V.each i hi) (qK V.own rfl) Dd hb.symm))
  exact Zo _ (mv p hp) (mv q hq) (hM p) (hM q)
 have a6:Hh ((∀i,i+1<ls.length->¬ls.getD i []=ls.getD (i+1) [])->cpt ls=ls):=λh=>by
  have:=Vu (ls.length-1) Oo (λi hi=>h i Oo);rw[show ls.length-1+1=ls.length by omega,tL]at this;exact this
 have b8:Hh (∀K m,0<K->K<ls.length->(∀i,i+1<K->¬ls.getD i []=ls.getD (i+1) [])->ls.getD (K-1) []=ls.getD K []->Cst w (w.drewN m) B g cap us ls K (K+1) (us.take K)):=λK m h1 h3 h4 h5=>Cst.start V h1 h3 h4 h5 m;clear V hM;have q2:¬((ls.length:Int)<2):=Oo;have⟨n,b9⟩:=Ex ls.length;change Hh _ at b9;rw[<-b9]at M a5 KQ a6 b8 a7 hn c9 h2 q2 |-;go_enter func186,ntmps186;go_wp2;go_loopw [5] (λt wr=>∃k:Nat,1<=k/\k<=n/\t=ai k/\Hh (∃q,wr=w.drewN q)/\Hh (∀i,i+1<k->¬ls.getD i []=ls.getD (i+1) [])) (λt _=>n-(intOf t).toNat);exact⟨1,eA,Oo,rfl,ay ⟨0,rfl⟩,ay (λi hi=>Oo)⟩;obtain⟨k,d9,hk,rfl,hQ,a8⟩:=hrel;by_cases a9:k<n
 .have i1:=aV a9;have i2:((k:Int)-1).toNat=k-1:=Oo;have c1:aC wr g k (us.getD k undef):=by obtain⟨q,rfl⟩:=hQ.o;exact M k a9
  have c2:aC wr g (k-1) (us.getD (k-1) undef):=by obtain⟨q,rfl⟩:=hQ.o;exact M _ Oo
  have I:Hh (∀m,Cl 112 #[us.getD k undef,us.getD (k-1) undef] (wr.drewN m) λe w'=>e=.returned (.bool (decide (ls.getD k []=ls.getD (k-1) [])))/\∃r,w'=(wr.drewN m).drewN r):=λm=>by
   obtain⟨q,rfl⟩:=hQ.o;exact KQ (w.drewN q) k _ (λ_ _=>rfl) a9 Oo m
  have⟨a1,k1,e1⟩:=a5 k a9;have⟨a2,k2,e2⟩:=a5 (k-1) Oo;rw[e1]at c1 I;rw[e2]at c2 I;have i3:¬((k:Int)-1<0):=Oo;have i4:(k:Int)-1<(n:Int):=Oo;have i5:(0:Int)<=k-1:=Oo;by_cases hd:ls.getD k []=ls.getD (k-1) []
  .rw[fD hd]at I;generalize (ls.getD k []).length=m1 at *;generalize (ls.getD (k-1) []).length=m2 at *;go_upto_region 6 with fail;go_quiet (first|go_at_call 112;exact Calls.quiet_of (I _))
   have c7:Hh (Cst w (wr.drewN nq) B g cap us ls k (k+1) (us.take k)):=(by
    obtain⟨q,rfl⟩:=hQ.o;rw[World.drewN_drewN];exact b8 k _ Oo a9 a8 hd.symm)
   clear c1 c2 I e1 e2 hQ a8 hd b8 a6 a7 M i2 i3 i4 i5;generalize wr.drewN nq=W5 at c7 |-;have q5:¬cap=k:=Oo;have q6:k<=cap:=Oo;go_wp2;go_loopw [5,7] (λt5 t7 wr=>∃O k2:Nat,1<=k2/\k+k2<=n/\t5=ai O/\t7=ai k2/\Hh (∃uo,Cst w wr B g cap us ls O (k+k2) uo)) (λ_ t7 _=>n-(intOf t7).toNat);exact⟨k,1,eA,Oo,rfl,rfl,ay ⟨_,c7⟩⟩;clear c7;obtain⟨O,k2,e0,d7,rfl,rfl,HT⟩:=hrel;have⟨uo,hC⟩:=HT.o;have HC:=ay hC;have hkj:=hC.kj;clear HT hC;have d4:Hh (∃u,wr.cell? (az g O)=some u):=(by
    have⟨cur,h1,h3⟩:=HC.o.typ;rw[eI h1];exact⟨_,dC Oo⟩)
   have f1:∀p,wr.frozen? (az g p)=false:=λp=>by
    obtain⟨cur,h1,-⟩:=HC.o.typ;unfold World.frozen?;rw[h1];simp
   by_cases b1:k+k2<n
   .have j1:(k2:Int)<((n-k:Nat):Int):=Oo;have j2:((k2:Int)-1).toNat=k2-1:=Oo;have j3:¬((k2:Int)-1<0):=Oo;have j4:(k2:Int)-1<((n-k:Nat):Int):=Oo;have j5:(0:Int)<=k2-1:=Oo;have j6:(O:Int)<n:=Oo;have d1:=HC.o.tail (k+k2) Oo (by rw[<-b9.o];omega);have d2:=HC.o.tail (k+(k2-1)) Oo (by rw[<-b9.o];omega);have I:=ay (KQ _ _ (k+(k2-1)) HC.o.far b1 Oo);have⟨a3,k3,e1⟩:=a5 _ b1;have⟨a4,k4,e2⟩:=a5 (k+(k2-1)) Oo;change Hh _ at e1;rw[e1]at d1 I;rw[e2]at d2 I;clear e2;have ej:k+k2-1=k+(k2-1):=Oo;by_cases hd:ls.getD (k+k2) []=ls.getD (k+(k2-1)) []
    .rw[fD hd]at I;have b7:=ay (HC.o.skip (by rw[<-b9.o];exact b1) (by rw[ej];exact hd.symm));generalize (ls.getD (k+k2) []).length=m3 at *;generalize (ls.getD (k+(k2-1)) []).length=m4 at *;clear ej hd;go_upto_region 11 with fail;go_quiet (first|go_at_call 112;exact Calls.quiet_of (I _))
     have c8:=ay (b7.o.drewN nq);go_wp2;go_roundw;exact⟨O,k2+1,Oo,Oo,rfl,Gg,ay ⟨_,c8⟩⟩;exact Im
    rw[fC hd]at I;have b7:=ay λq=>(HC.o.drewN q).keep HR (by rw[<-b9.o];exact b1) (by rw[ej];exact λe=>hd e.symm);rw[e1.o]at b7;have⟨u9,d3⟩:=d4.o;have f3:=f1 O;generalize (ls.getD (k+k2) []).length=m3,(ls.getD (k+(k2-1)) []).length=m4 at *;clear ej hd f1;go_upto_region 11 with fail;go_quiet (first|go_at_call 112;exact Calls.quiet_of (I _))
    go_wp2;go_roundw;exact⟨O+1,k2+1,Oo,Oo,Gg,Gg,ay ⟨_,b7 nq⟩⟩;exact Im
   have j1:¬((k2:Int)<((n-k:Nat):Int)):=Oo;obtain rfl:k2=n-k:=Oo;have HF:Hh (RQ (wr.setCells g O (List.replicate (n-O) sn)) B (sZ g 0 O cap) uo (cpt ls)/\Below B w (wr.setCells g O (List.replicate (n-O) sn))):=(by
    have h:=HC.o;rw[show k+(n-k)=ls.length by rw[<-b9.o];omega]at h;exact h.fin HR _)
   have d8:=λty=>
    Lib.run_clear_slice _ 23 24 ty sn underlying23 (λ_=>Kl) rfl rfl g O (n-O) (cap-O) Oo (λj hj=>by
     have⟨cur,h1,h3⟩:=HC.o.typ;rw[eI h1,dC Oo];rfl) (λj _=>f1 _)
   have q7:¬cap=O:=Oo;have q8:O<=cap:=Oo;have q9:O<=n:=Oo;clear HC d4 f1;go_wp2;go_ret;exact⟨_,rfl,⟨uo,HF.1⟩,HF.2⟩
  rw[fC hd]at I;have hN:Hh (∀i,i+1<k+1->¬ls.getD i []=ls.getD (i+1) []):=λi hi=>by
   by_cases e:i+1<k;exact a8 i e;obtain rfl:k=i+1:=Oo;simpa using λe=>hd e.symm
  generalize (ls.getD k []).length=m1,(ls.getD (k-1) []).length=m2 at *;clear hd;go_upto_region 6 with fail;go_quiet (first|go_at_call 112;exact Calls.quiet_of (I _))
  go_wp2;go_roundw;exact⟨k+1,Oo,Oo,Gg,ay (zh hQ),hN⟩;exact Im
 obtain rfl:k=n:=Oo;have i1:=aY k;have HF:Hh (∃q,wr=w.drewN q/\RQ (w.drewN q) B (sZ g 0 k cap) us (cpt ls)/\Below B w (w.drewN q)):=(by
  have⟨q,e⟩:=hQ.o;exact⟨q,e,by rw[a6.o a8.o];exact(a7 q).1,(a7 q).2⟩)
 go_wp2;go_ret;obtain⟨q,rfl,h1,h3⟩:=HF.o;exact⟨_,rfl,⟨us,h1⟩,h3⟩
def xC(rows:LL)(places:LI):LL:=rows.map λr=>atP r places
theorem qGf rows places:(xC rows places).length=rows.length:=by simp[xC]
theorem qFG{rows:LL}{places j}(I:j<rows.length):xC (rows.take (j+1)) places=xC (rows.take j) places++[atP (rows.getD j []) places]:=by
 unfold xC;rw[tA,gE I,gD,gE I,mA];rfl
theorem Z7 w{vr}vp{rows}places(hr:ISS w vr rows)(hp:IS w vp places)(hn:rows.length<=1000000)(e6:places.length<=1000)(b9:∀r∈rows,∀p∈places,0<=p/\p<r.length):
 Cl 156 #[vr,vp] w λe w'=>∃v uo,e=.returned v/\RQ w' w.1.size v uo (srt (xC rows places))/\Bl w w':=by
 have⟨iS,M,c7,c8,c9⟩:=aX Tryz.infoIS;obtain⟨ar,cr,rfl,hc⟩:=hr;have HC:Hh (∀W,Bl w W->∀j,j<rows.length->∃(b o:Nat) (u:Value),ar=some (az b o)/\aC W b (o+j) u/\IS W u (rows.getD j [])):=λW hW j M=>by
  rcases hc with h0|⟨b,o,rfl,h⟩;omega;have⟨u,h1,h2⟩:=h j M;exact⟨b,o,u,rfl,(hW.cell (bL w _ h1)).trans h1,h2.below hW⟩
 have KV:Hh (∀W u j,Bl w W->j<rows.length->IS W u (rows.getD j [])->Cl 91 #[u,vp] W λe w'=>∃v,e=.returned v/\w'.ownsRow W.1.size 3 1 v (atP (rows.getD j []) places).length ((atP (rows.getD j []) places).map ai)/\Bl W w'):=λW u j hW M hu=>
  xZ W u _ _ _ hu (hp.below hW) e6 (b9 _ (by rw[gD,gE M];exact gM _))
 have HP:Hh (∀j,j<rows.length->xC (rows.take (j+1)) places=xC (rows.take j) places++[atP (rows.getD j []) places]):=λj M=>qFG M;have a9:Hh (∀j,j<=rows.length->(xC (rows.take j) places).length=j):=λj M=>by rw[qGf,bZ];omega
 have d0:Hh (xC (rows.take rows.length) places=xC rows places):=ay (by rw[tL]);have d1:Hh (xC (rows.take 0) places=[]):=ay rfl;have HM:Hh (∀i,((xC rows places).getD i []).length<=1099511627776):=ay λi=>by
  unfold xC;rw[gD,bK];cases h:rows[i]? with
  |none=>simp
  |some r=>show(atP r places).length<=_;rw[UN];omega
 obtain⟨ap,cp,rfl,-⟩:=hp;clear hc b9;have⟨n,d2⟩:=Ex rows.length;rw[<-d2]at HC KV HP a9 d0 hn |-;clear d2;generalize places.length=np at *;go_enter func156,ntmps156;go_wp2_with (at_make;refine wpList_make_own _ rfl _ _ 23 rfl _ 24 _ _ 1 underlying23 M c7 c8 _ _ _ n rfl rfl rfl ?b2 ?b3 eA ?_)
 case b2=>rw[c9];omega
 case b3=>unfold maxLen;omega
 intro w0 a3 K;have b1:Hh (RQ w0 w.1.size (sZ w.1.size 0 0 n) [] []/\Bl w w0):=ay ⟨⟨a3,rfl,λi hi=>by simp at hi,λi j _ M=>by simp at M⟩,eB.grown K eA (λj M=>by cases M)⟩;clear K a3;go_wp2;go_loopw [5,13] (λu t wr=>∃(j g cap:Nat),j<=n/\t=ai j/\u=sZ g 0 j cap/\Hh (∃uo,RQ wr w.1.size (sZ g 0 j cap) uo (xC (rows.take j) places)/\Bl w wr)) (λ_ t _=>n-(intOf t).toNat);exact⟨0,w.1.size,n,eC,rfl,rfl,ay ⟨[],by rw[d1.o];exact b1.1,b1.2⟩⟩;clear b1 d1;obtain⟨j,g,cap,e7,rfl,rfl,HT⟩:=hrel;have⟨uo,hQ,hB⟩:=HT.o;change Hh _ at hQ hB;clear HT;by_cases b7:j<n
 .have i1:=aV b7;have⟨b,o,u,ea,c1,hu⟩:=HC _ hB j b7;subst ea;have d3:=ay (KV _ u j hB b7 hu);have e8:=ay (HP j b7);have O:=a9 j e7;obtain⟨au,cu,rfl,-⟩:=hu;generalize (rows.getD j []).length=lr,atP (rows.getD j []) places=pr at *;go_wp2_with fail;apply d3.o.mono;rintro e w2 ⟨v2,rfl,a5,V⟩;have d4:=ay (hQ.o.below V);have a6:=ay (bt hB V);have e9:=ay (qE a5 hB.o.size);have f7:Hh (∀i,i<(xC (rows.take j) places).length->∀g,(uo.getD i undef).ownBlock=some g->v2.ownBlock≠some g):=ay λi hi g h1 h2=>by
   have a1:=((hQ.o.each i hi).lt g h1).2;have a2:=(a5.lt g h2).1;omega
  obtain⟨a2,k2,e2⟩:∃a c,v2=.slice a pr.length c:=by
   rcases a5.2 with ⟨e,hn⟩|⟨g,cap,cur,e,_⟩;exact⟨none,0,by rw[e,hn]⟩;exact⟨_,cap,e⟩
  subst e2;have hs2:=a6.o.size;clear a5 V d3 c1 hQ hB
  have d6:=ay (by have:=d4.o.own;rw[O]at this;exact this);go_wp2_with (at_builtin;refine wpList_append_lies _ rfl _ _ 23 rfl _ 24 _ _ 1 _ underlying23 M c7 c8 c9 rfl Dd (sZ g 0 j _) _ _ rfl (d6.o.alloc _) (az _ 0) 1 1 _ rfl rfl (qH _ _ _) (λu hu=>by simp at hu;subst hu;rfl) Dd Um Oo Sy _ rfl ?_;intro g3 cp3 w3 a4 I d7 d8);have HN:Hh (∃f8,RQ w3 w.1.size (sZ g3 0 (j+1) cp3) f8 (xC (rows.take (j+1)) places)/\Bl w w3):=ay ⟨_,by rw[e8.o];exact d4.o.step e9 f7 (by rw[O];exact a4) I,(a6.o.alloc hs2 _).grown I Sy (λq hq=>(d6.o.lt q hq).1)⟩;clear a4 I d7 d8;go_roundw;exact⟨j+1,g3,cp3,Oo,Gg,rfl,HN⟩;exact Im
 obtain rfl:j=n:=Oo;have i1:=aY j;have O:=a9 j eA;rw[d0.o]at hQ O;have KS:=ay (Uc wr w.1.size g cap uo (by rw[O];exact hQ) (λi _=>HM i) Oo);rw[O]at KS;go_wp2_with fail;apply KS.o.mn;rintro w2 ⟨f9,a7,d9,a8,b8,hs2,V⟩;have a6:=ay (hB.o.trans V);have e0:∀i,(a7.getD i []).length<=1099511627776:=λi=>by
  rw[gD];cases h:a7[i]? with
  |none=>simp
  |some r=>
   have⟨q,hq,e⟩:=gO ((b8 r).1 (List.mem_of_getElem? h));have:=HM q;rw[gD,gE hq,e]at this;exact this
 have KC:=ay (Xd w2 w.1.size g cap f9 (by rw[a8];exact d9) e0 (by rw[a8];omega));have e1:a7.Pairwise λa b=>¬cmpL b a<0:=hs2.imp λh=>Oo;rw[a8,qIT e1 b8]at KC;clear KS d9 V hs2 e1 b8 e0 a8;go_wp2_with fail;apply KC.o.mono;rintro e w3 ⟨v3,e3,rfl,e4,e5⟩;have HF:Hh (RQ w3 w.1.size v3 e3 (srt (xC rows places))/\Bl w w3):=ay ⟨e4,a6.o.trans e5⟩;clear e4 e5;go_wp2;go_ret;exact⟨_,e3,rfl,HF.1,HF.2⟩
end Go.Proofs.YtnpgdnaeghilhaaGreat
namespace Go.Proofs.YtnpgdnaeghilhaaGreat
open Go.Proofs.Tryz Go.RowKit
variable {I q vars vb vs:LI}{ls rows rb:LL}{us xs:LV}{B B' c i j k l m n off s g:Nat}{p:NB}{o:Obj}{e t:TypeId}{vp x y vt u u1 u2 v0 v1 v2:Value}{A W X Y w Z b W' w3 a:World}
structure KT(B:Nat)(W W':World):Prop where
 bel:Below B W W'
 cel:∀(k:Nat) (cur:AV) (ty:TypeId) (z:Nat×Nat),W.1[k]?=some (Obj.cells cur ty z)->ty≠268->ty≠4->W'.1[k]?=W.1[k]?
theorem KT.refl B W:KT B W W:=⟨eB,λ_ _ _ _ _ _ _=>rfl⟩
theorem KT.trans(h:KT B X Y)(k:KT B Y Z):KT B X Z:=
 ⟨h.bel.trans k.bel,λi cur ty z hi I K=>(k.cel i _ _ z ((h.cel i _ _ z hi I K).trans hi) I K).trans (h.cel i cur ty z hi I K)⟩
theorem KT.mono(h:KT B X Y)(hB:B'<=B):KT B' X Y:=⟨h.bel.mono hB,h.cel⟩
theorem qZ(h:W.1[k]?=some o):k<W.1.size:=(dK.1 h).1
theorem KT.of_below(h:Bl X Y)(hB:B<=X.1.size):KT B X Y:=⟨h.mono hB,λk _ _ _ I _ _=>h.block k (qZ I)⟩
theorem KT.put K(hl:B<=l)(h:X.1[l]?=some o)(M:o.isCells=false):KT B X (X.putObj l K):=by
 refine⟨⟨rfl,rfl,rfl,Ss,λk I=>World.putObj_heap_other Oo⟩,λk cur ty z I _ _=>World.putObj_heap_other λe=>?_⟩;subst e;rw[h]at I;cases I
 cases M
theorem KT.set{b o}{cur:AV}{ty z}v(hb:B<=b)(h:X.1[b]?=some (Obj.cells cur ty z))(M:ty=268\/ty=4):KT B X (X.setCell (az b o) v):=by
 refine⟨eB.setCell hb _,λk I O z' K V h2=>eG λe=>?_⟩;have e':k=b:=e;subst e';rw[h]at K;cases K
 rcases M with rfl|rfl;exact V rfl;exact h2 rfl
def Gives{α β:Type}(P:Program)(gf:Nat)(lb:AV)(encs:β->AV)(Kp Kx:Nat->World->WP)(Pre:List α->α->β->World->WP)(xs:List α)(w:World):Prop:=
 ∀(l:Nat) (J:List α->WP) (Jx:WP) (W:World),Bl w W->l<W.1.size->w.1.size<=l->
  (∀s X Y,J s X->KT W.1.size X Y->J s Y)->(∀X Y,Jx X->KT W.1.size X Y->Jx Y)->
  (∀pre x b X Y,J pre X->KT W.1.size X Y->Pre pre x b X Y->YieldAt Fence.wide 0 P l (encs b) Y λe Z=>(e=.returned (.bool true)/\J (pre++[x]) Z/\Kp l Y Z)\/(e=.returned (.bool false)/\Jx Z/\Kx l Y Z))->
  J [] W->Calls P gf (#[.func (.yield l) #[] #[]]++lb) W λe W'=>(∃v,e=.returned v)/\(J xs W'\/Jx W')
def qJF{α:Type}(B:Nat)(Kp Kx:World->WP)(I:List α->WP)(Ix:Code->WP)(ys:List α)(W:World):Exit->Act->WP
 | .normal,_,W'=>KeepsFrom B W W'/\Kp W W'/\I ys W'
 | .ret,_,W'=>KeepsFrom B W W'/\Kx W W'/\Ix .ret W'
 | .exit id,_,W'=>KeepsFrom B W W'/\Kx W W'/\Ix (.exit id) W'
 |_,_,_=>False
theorem qHs:Fence.wide.depth.isSome=true->1<=k:=λh=>by cases h
theorem QB{α β P g ps assign body}{Q:Exit->Act->WP}{a}{gf:Nat}{lb}
 (hg:a.eval g=.func (.func gf) #[] lb) (eg:∀args W,(callFunc gf args).run P W=.ok (.enter gf args) W)
 {O} {Kp Kx} {c9} {xs} (d0:Gives P gf lb O Kp Kx c9 xs w) (d6:∀b,(O b).size=ps.size)
 (a8:∀{l:Nat} {X Y Z:World},Kp l X Y->Kp l Y Z->Kp l X Z) (a6:∀l W o o',w.1.size<=l->W.1[l]?=some o->o.isCells=false->Kp l W (W.putObj l o'))
 (d1:∀{l:Nat} {X Y Z V:World},Kp l X Y->Kx l Y Z->Kp l Z V->Kx l X V)
 I Ix (hI:∀s X Y,I s X->KT w.1.size X Y->I s Y) (a7:∀c X Y,Ix c X->KT w.1.size X Y->Ix c Y) (h0:I [] w)
 (Ax:Nat->List α->α->β->Act->WP) (d7:∀l pre x b a' W o o',Ax l pre x b a' W->w.1.size<=l->W.1[l]?=some o->o.isCells=false->Ax l pre x b a' (W.putObj l o'))
 (a4:∀(l:Nat) (pre:List α) (x:α) (b:β) (X Y:World) (K:Act->WP),w.1.size<=l->I pre X->KT w.1.size X Y->c9 pre x b X Y->(∃r,Y.1[l]?=some (.loop r))->
  (∀a' W',KeepsFrom w.1.size Y W'->Kp l Y W'->Ax l pre x b a' W'->K a' W')->
  assign.wpIn (Fence.wide.inRound l) 0 P (Exit.then K (λ_ _ _=>False)) { tmps:=(ps.zip (O b)).foldl (λt (p,v)=>t.setIfInBounds p v) a.tmps,defers:=[] } Y)
 (a9:∀l pre x b a' W,w.1.size<=l->(∃r,W.1[l]?=some (.loop r))->Ax l pre x b a' W->body.wpIn (Fence.wide.inRound l) 0 P (qJF w.1.size (Kp l) (Kx l) I Ix (pre++[x]) W) a' W)
 (b7:∀D W,w.1.size<=D->I xs W->W.1[D]?=some (.deferred (some []))->Q .normal { a with defers:={ target:=.collected D,args:=#[] }::a.defers } W)
 (b8:∀D c W,w.1.size<=D->Ix c W->W.1[D]?=some (.deferred (some []))->c.wpIn Fence.wide 0 P Q { a with defers:={ target:=.collected D,args:=#[] }::a.defers } W):
 (Code.rangeFunc g ps assign body).wpIn Fence.wide 0 P Q a w:=by
 refine wpIn_rangeFunc λfn d8=>?_;have⟨rec,M⟩:=Ex (λst pe=>{ state:=st,pending:=pe,fn,tmps:=a.tmps,params:=ps,assign,body,defers:=w.1.size }:LoopState->Option Code->Loop);have⟨W1,a5⟩:=Ex ((w.alloc (.deferred (some []))).alloc (.loop (rec .ready none)));have hsz:W1.1.size=w.1.size+2:=by rw[a5];simp
 have d2:Bl w W1:=by rw[a5];exact(aK).alloc Ss _
 have d3:W1.1[w.1.size+1]?=some (.loop (rec .ready none)):=by
  rw[a5];have:=World.alloc_heap_new (w.alloc (.deferred (some []))) (.loop (rec .ready none));rwa[aM]at this
 have d9:W1.1[w.1.size]?=some (.deferred (some [])):=by
  rw[a5];exact(eL Ss).trans (World.alloc_heap_new w _)
 have⟨l,hl⟩:=Ex (w.1.size+1);rw[<-hl]at d3;have two:∀{X Y:World} {r:Loop},KT W1.1.size X Y->X.1[l]?=some (.loop r)->X.1[w.1.size]?=some (.deferred (some []))->Y.1[l]?=some (.loop r)/\Y.1[w.1.size]?=some (.deferred (some [])):=λ{X Y r} hk h1 h2=>
  ⟨(hk.bel.block _ Oo).trans h1,(hk.bel.block _ Oo).trans h2⟩
 have b9:∀{X Y:World},KT W1.1.size X Y->KT w.1.size X Y:=λh=>h.mono Oo;have c7:=d0 l (λpre W=>I _ W/\W.1[l]?=some (.loop (rec _ _))/\W.1[w.1.size]?=some (.deferred (some [])))
  (λW=>∃c,Ix c W/\W.1[l]?=some (.loop (rec .done (some c)))/\W.1[w.1.size]?=some (.deferred (some []))) _ d2 Oo Oo
  (λs X Y hs hk=>⟨hI s X Y hs.1 (b9 hk),two hk hs.2.1 hs.2.2⟩)
  (λX Y hs hk=>by
   have⟨c,hc,h1,h2⟩:=hs;exact⟨c,a7 c X Y hc (b9 hk),two hk h1 h2⟩)
  (λpre x b X Y hs hk hp=>by
   have⟨hi,h1,h2⟩:=hs;have⟨g1,g2⟩:=two hk h1 h2;have hy:=run_yield (P:=P) (args:=O b) g1 (by rw[M];exact d6 b);rw[M]at hy;refine⟨fn,_,assign,body,hy,roundIn_of_wpIn d8 (a4 l _ x b X Y _ Oo hi (b9 hk) hp ⟨_,g1⟩ ?_)⟩;clear hy;intro a' W' d4 e0 e1;have f1:=d4.same _ _ Oo g1 rfl;refine⟨_,run_beginRound f1 (by rw[M]),?_⟩;have b1:(W'.putObj l (.loop { rec .ready none with state:=.busy })).1[l]?=some (.loop { rec .ready none with state:=.busy }):=World.putObj_heap_same (qZ f1);have c8:=a8 e0 (a6 l _ _ (.loop { rec .ready none with state:=.busy }) Oo f1 rfl);refine wpIn_mono (a9 l _ x b _ _ Oo ⟨_,b1⟩ (d7 l _ x b _ _ _ _ e1 Oo f1 rfl)) ?_;have fin:∀(jump:Option Code) (W3:World),KeepsFrom w.1.size (W'.putObj l (.loop { rec .ready none with state:=.busy })) W3->
    (Instr.endRound l jump).run P W3=.ok (.bool jump.isNone) (W3.putObj l (.loop (rec (if jump.isNone then .ready else .done) jump)))/\W3.1[l]?=some (.loop { rec .ready none with state:=.busy })/\
    (W3.putObj l (.loop (rec (if jump.isNone then .ready else .done) jump))).1[l]?=some (.loop (rec (if jump.isNone then .ready else .done) jump))/\
    (W3.putObj l (.loop (rec (if jump.isNone then .ready else .done) jump))).1[w.1.size]?=some (.deferred (some [])):=λjump W3 d5=>by
    have c1:=d5.same _ _ Oo b1 rfl;have c2:=d5.same _ _ eA ((World.putObj_heap_other Oo).trans (d4.same _ _ eA g2 rfl)) rfl;have hr:=run_endRound (P:=P) jump c1;rw[M]at hr |-;exact⟨hr,by rw[M]at c1;exact c1,World.putObj_heap_same (qZ c1),(World.putObj_heap_other Oo).trans c2⟩
   rintro e a3 W3 hq;cases e with
   |normal=>
    have⟨q1,q2,q3⟩:=hq;have⟨hr,c1,c2,c3⟩:=fin none _ q1;exact⟨_,_,hr,.inl ⟨rfl,⟨hI _ _ _ q3 (KT.put _ Oo c1 rfl),c2,c3⟩,a8 (a8 c8 q2) (a6 l _ _ _ Oo c1 rfl)⟩⟩
   |ret=>
    have⟨q1,q2,q3⟩:=hq;have⟨hr,c1,c2,c3⟩:=fin (some .ret) _ q1;exact⟨_,_,hr,.inr ⟨rfl,⟨.ret,a7 _ _ _ q3 (KT.put _ Oo c1 rfl),c2,c3⟩,d1 c8 q2 (a6 l _ _ _ Oo c1 rfl)⟩⟩
   |exit id=>
    have⟨q1,q2,q3⟩:=hq;have⟨hr,c1,c2,c3⟩:=fin (some (.exit id)) _ q1;exact⟨_,_,hr,.inr ⟨rfl,⟨.exit id,a7 _ _ _ q3 (KT.put _ Oo c1 rfl),c2,c3⟩,d1 c8 q2 (a6 l _ _ _ Oo c1 rfl)⟩⟩
   |goto t=>exact hq.elim
   |panic ch=>exact hq.elim
   |outgrown=>exact hq.elim)
  ⟨hI _ w _ h0 (KT.of_below d2 eA),d3,d9⟩
 refine⟨l,[{ target:=.collected w.1.size,args:=#[] }],W1,{ target:=.fn (.func gf) lb,args:=#[.func (.yield l) #[] #[]] },W1,gf,#[.func (.yield l) #[] #[]]++lb,W1,?_,?_,?_,?_,qHs,?_⟩;have:=run_enterLoop_outer (P:=P) (w:=w) fn a.tmps ps assign body;rw[hl,a5,M];exact this
 .simp only[resolve,hg];simp[go_sem]
 intro f' _;trivial
 .simp[invoke,go_sem,eg]
 refine callsIn_wide.2 (c7.mono ?_);rintro e W2 ⟨⟨v,rfl⟩,⟨hi,h1,h2⟩|⟨c,hi,h1,h2⟩⟩;exact⟨none,_,by have:=run_endLoop (P:=P) h1 (by rw[M];simp);rw[M]at this;exact this,b7 _ _ eA (hI _ _ _ hi (KT.put _ Oo h1 rfl)) ((World.putObj_heap_other Oo).trans h2)⟩;exact⟨some c,_,by have:=run_endLoop (P:=P) h1 (by rw[M];simp);rw[M]at this;exact this,b8 _ c _ eA (a7 _ _ _ hi (KT.put _ Oo h1 rfl)) ((World.putObj_heap_other Oo).trans h2)⟩
structure JX where
 h:Nat
 r:Nat
 v:Nat
 n0:Nat
 nT:Nat
 H:Nat->NB
 D:Nat->LI->Prop
 N:Nat->LI->LI
 f:Nat->LI->Nat
 g0:Nat->LI->Value
 g1:Nat->LI->Value
 hv:Value
 uh:LV
 hav:LL
def RBk(x:JX)(W:World)(k:Nat):Prop:=∃o n c,W.cell? (az x.r 0)=some (sZ k o n c)
def Mb(x:JX)(W:World)(k:Nat):Prop:=k=x.h\/k=x.r\/k=x.v\/RBk x W k
def TyR(x:JX)(W:World):Prop:=∀k,RBk x W k->∃cur z,W.1[k]?=some (Obj.cells cur 24 z)
structure KpS(x:JX)(S:Nat->Prop)(W W':World):Prop where
 os:W'.os=W.os
 tape:W'.tape=W.tape
 output:W'.output=W.output
 size:W.1.size<=W'.1.size
 same:∀(k:Nat) (o:Obj),W.1[k]?=some o->(o.isCells=true\/¬S k)->¬Mb x W k->W'.1[k]?=some o
 fresh:∀k,RBk x W' k->RBk x W k\/W.1.size<=k
 typ:TyR x W->TyR x W'
section
variable {x:JX} {S:Nat->Prop} {X Y Z:World}
theorem RBk.eq(h:Y.1[x.r]?=X.1[x.r]?)k:RBk x Y k↔RBk x X k:=by
 unfold RBk;have e:=bF (a:=az x.r 0) h;rw[e]
theorem KpS.refl x S X:KpS x S X X:=⟨rfl,rfl,rfl,eA,λ_ _ h _ _=>h,λ_ h=>.inl h,λh=>h⟩
theorem KpS.trans(h:KpS x S X Y)(k:KpS x S Y Z):KpS x S X Z:=by
 refine⟨k.os.trans h.os,k.tape.trans h.tape,k.output.trans h.output,bM h.size k.size,λi o hi hs I=>?_,λi hi=>?_,λM=>k.typ (h.typ M)⟩
 .refine k.same i o (h.same i o hi hs I) hs λK=>?_;rcases K with e|e|e|e;exact I (.inl e);exact I (.inr (.inl e));exact I (.inr (.inr (.inl e)));rcases h.fresh i e with e|e;exact I (.inr (.inr (.inr e)));have:=qZ hi;omega
 rcases k.fresh i hi with e|e;exact h.fresh i e;exact .inr (bM h.size e)
theorem KpS.sub{I}(h:KpS x S X Y)(hs:∀k,S k->I k):KpS x I X Y:=
 ⟨h.os,h.tape,h.output,h.size,λk o K M O=>h.same k o K (M.imp id λV h1=>V (hs k h1)) O,h.fresh,h.typ⟩
theorem KpS.kt(h:KpS x S X Y)(k:KT X.1.size Y Z)(M:x.r<X.1.size):KpS x S X Z:=by
 have hb:=k.bel;have I:=hb.block _ M;refine⟨hb.os.trans h.os,hb.tape.trans h.tape,hb.output.trans h.output,bM h.size hb.size,λi o hi hs O=>(hb.block i (qZ hi)).trans (h.same i o hi hs O),λi hi=>h.fresh i ((RBk.eq I i).1 hi),λV i hi=>?_⟩;have⟨cur,z,K⟩:=h.typ V i ((RBk.eq I i).1 hi);exact⟨cur,z,(k.cel i _ _ z K Dd Dd).trans K⟩
theorem KpS.put{O}(hs:S l)(hl:X.1[l]?=some o)(V:o.isCells=false)(hr:x.r≠l):KpS x S X (X.putObj l O):=by
 have he:(X.putObj l O).1[x.r]?=X.1[x.r]?:=World.putObj_heap_other hr;refine⟨rfl,rfl,rfl,Ss,λk o2 K M _=>(World.putObj_heap_other λe=>?_).trans K,λk K=>.inl ((RBk.eq he k).1 K),λht k K=>?_⟩
 .subst e;rw[hl]at K;cases K
  rcases M with I|I;rw[V]at I;cases I
  exact I hs
 have⟨cur,z,I⟩:=ht k ((RBk.eq he k).1 K);refine⟨cur,z,(World.putObj_heap_other λe=>?_).trans I⟩;subst e;rw[hl]at I;cases I
 cases V
theorem KpS.nr(h:KpS x S X Y)(O:k<X.1.size)(K:¬RBk x X k):¬RBk x Y k:=λM=>by
 rcases h.fresh k M with I|I;exact K I;omega
theorem qJB(I:TyR x X)(K:Y.1[x.r]?=X.1[x.r]?)(V:X.1.size<=k):¬RBk x Y k:=λM=>by
 have⟨cur,z,O⟩:=I k ((RBk.eq K k).1 M);have:=qZ O;omega
end
structure Sb(x:JX)(W W':World):Prop where
 size:W.1.size<=W'.1.size
 same:∀(k:Nat) (cur:AV) (ty:TypeId) (z:Nat×Nat),x.n0<=k->W.1[k]?=some (Obj.cells cur ty z)->ty≠268->ty≠4->(ty≠24\/¬RBk x W k)->W'.1[k]?=W.1[k]?
structure JX.Ok(x:JX):Prop where
 h:x.h<x.n0
 r:x.r<x.n0
 v:x.v<x.n0
section
variable {x:JX} {S:Nat->Prop} {X Y Z:World}
theorem KT.sb(h:KT x.n0 X Y):Sb x X Y:=⟨h.bel.size,λk cur ty z _ I K M _=>h.cel k cur ty z I K M⟩
theorem KpS.not(K:x.Ok)(V:TyR x X){cur:AV}{ty z}(hk:x.n0<=k)(hc:X.1[k]?=some (Obj.cells cur ty z))(I:ty≠24\/¬RBk x X k):¬Mb x X k:=λhm=>by
 have h1:=K.h;have h2:=K.r;have h3:=K.v;rcases hm with e|e|e|e;omega;omega;omega;rcases I with I|I
 .have⟨M,z',O⟩:=V k e;rw[hc]at O;cases O
  exact I rfl
 exact I e
theorem KpS.sb(h:KpS x S X Y)(K:x.Ok)(M:TyR x X):Sb x X Y:=
 ⟨h.size,λk _ _ _ O I _ _ V=>(h.same k _ I (.inl rfl) (KpS.not K M O I V)).trans I.symm⟩
theorem Qc{v}(h:X.ownsRow B e s v n xs)(hs:Sb x X Y)(hB:x.n0<=B)(K:e≠268)(M:e≠4)(O:e≠24\/∀k,v.ownBlock=some k->¬RBk x X k):Y.ownsRow B e s v n xs:=
 qD h λg I=>by
  have⟨cur,V⟩:=qK h I;exact hs.same g _ e _ (bM hB (h.lt g I).1) V K M (O.imp id λh4=>h4 g I)
theorem TR.sb{D N0 N1 f g0 g1}(h:TR X B D N0 N1 f g0 g1)(hs:Sb x X Y)(hB:x.n0<=B):TR Y B D N0 N1 f g0 g1:=
 ⟨λp I=>(hs.same _ _ _ _ (bM hB (h.low p I)) (h.blk p I) Dd Dd (.inl Dd)).trans (h.blk p I),h.low,λp I=>Qc (h.o0 p I) hs hB Dd Dd (.inl Dd),λp I=>Qc (h.o1 p I) hs hB Dd Dd (.inl Dd),h.inj,h.a0,h.a1⟩
theorem TR.base{D N0 N1 f g0 g1}(h:TR X B D N0 N1 f g0 g1)(hB:B'<=B):TR X B' D N0 N1 f g0 g1:=
 ⟨h.blk,λp I=>bM hB (h.low p I),λp I=>qE (h.o0 p I) hB,λp I=>qE (h.o1 p I) hB,h.inj,h.a0,h.a1⟩
end
structure Dat(x:JX)(W:World):Prop where
 ty:TyR x W
 tr:∀t,t<x.nT->TR W x.n0 (x.D t) (x.N t) (x.N t) (x.f t) (x.g0 t) (x.g1 t)
 hq:RQ W x.n0 x.hv x.uh x.hav
 nr:∀k,x.hv.ownBlock=some k->¬RBk x W k
section
variable {x:JX} {S:Nat->Prop} {X Y Z:World}
theorem Dat.sb(h:Dat x X)(hs:Sb x X Y)(M:TyR x Y)(O:∀k,k<X.1.size->¬RBk x X k->¬RBk x Y k):Dat x Y:=by
 refine⟨M,λt I=>(h.tr t I).sb hs eA,⟨Qc h.hq.own hs eA Dd Dd (.inr h.nr),h.hq.len,λi hi=>Qc (h.hq.each i hi) hs eA Dd Dd (.inl Dd),h.hq.ap⟩,λk K=>O k (h.hq.own.lt k K).2 (h.nr k K)⟩
theorem TyR.kt(h:TyR x X)(I:KT x.n0 X Y)(M:x.Ok):TyR x Y:=λk O=>by
 have⟨cur,z,K⟩:=h k ((RBk.eq (I.bel.block _ M.r) k).1 O);exact⟨cur,z,(I.cel k _ _ z K Dd Dd).trans K⟩
theorem Dat.kt(h:Dat x X)(I:KT x.n0 X Y)(K:x.Ok):Dat x Y:=h.sb I.sb (h.ty.kt I K) λk _ M O=>M ((RBk.eq (I.bel.block _ K.r) k).1 O)
theorem Dat.kp(h:Dat x X)(I:KpS x S X Y)(K:x.Ok):Dat x Y:=h.sb (I.sb K h.ty) (I.typ h.ty) λ_ hl M=>I.nr hl M
end
def JX.bel(x:JX)(p:LI):LV:=(List.range x.nT).map λt=>.pointer (some (az (x.f t (prt (x.H t) p)) 0))
theorem JX.bel_len(x:JX)p:(x.bel p).length=x.nT:=by simp[JX.bel]
structure Brn(x:JX)(B:Nat)(W:World)(vp vb:Value)(p:LI):Prop where
 pre:W.ownsRow B 3 1 vp p.length (p.map ai)
 bel:W.ownsRow B 181 1 vb x.nT (x.bel p)
section
variable {x:JX} {S:Nat->Prop} {X Y Z:World}
theorem Brn.sb{vb p}(h:Brn x B X vp vb p)(hs:Sb x X Y)(hB:x.n0<=B):Brn x B Y vp vb p:=
 ⟨Qc h.pre hs hB Dd Dd (.inl Dd),Qc h.bel hs hB Dd Dd (.inl Dd)⟩
theorem Brn.below{vb p}(h:Brn x B X vp vb p)(hs:Bl X Y):Brn x B Y vp vb p:=⟨qB h.pre hs,qB h.bel hs⟩
theorem Brn.base{vb p}(h:Brn x B X vp vb p)(hB:B'<=B):Brn x B' X vp vb p:=⟨qE h.pre hB,qE h.bel hB⟩
end
open Meet
theorem qDc:∀j u,[x,y][j]?=some u->(w.alloc (.cells #[x,y] t)).cell? (((az w.1.size 0):Addr).add j)=some u:=by
 intro j u I;match j,I with
 |0,I=>simp at I;subst I;simp[Addr.add]
 |1,I=>simp at I;subst I;simp[Addr.add]
def uF(nd:NN)(q:NN)(k:Nat):LV:=(List.range k).flatMap λi=>[.pointer (some (az (nd i) 0)),ai (q i)]
theorem jJ nd q k:uF nd q (k+1)=uF nd q k++[.pointer (some (az (nd k) 0)),ai (q k)]:=by
 unfold uF;rw[dQ,dM];simp
theorem yn nd q k:(uF nd q k).length=k*2:=by
 induction k with
 |zero=>rfl
 |succ k ih=>rw[jJ,lA,ih];simp;omega
theorem qAe nd q i(hi:i<k):(uF nd q k)[i*2]?=some (.pointer (some (az (nd i) 0)))/\(uF nd q k)[i*2+1]?=some (ai (q i)):=by
 induction k with
 |zero=>omega
 |succ k ih=>
  rw[jJ];by_cases e:i<k;have:=ih e;rw[aL (by rw[yn];omega),aL (by rw[yn];omega)];exact this;obtain rfl:i=k:=Oo;rw[bQ (by rw[yn];omega),bQ (by rw[yn];omega),yn];refine⟨?_,?_⟩;rw[Nat.sub_self];rfl;rw[show i*2+1-i*2=1 by omega];rfl
theorem JZ w(bb nT cb:Nat){K}nd(d9:∃a n c,vp=.slice a n c)(ht:IS w vt K)(hn:K.length<=1000)
 (a7:∀j,j<K.length->0<=K.getD j 0/\K.getD j 0<nT) (a5:∀j,j<K.length->w.cell? (az bb ((K.getD j 0).toNat))=some (.pointer (some (az (nd j) 0)))):
 Cl 188 #[.agg #[vp,sZ bb 0 nT cb],vt] w λe w'=>∃v,e=.returned v/\w'.ownsRow w.1.size 268 2 v K.length (uF nd (λ_=>0) K.length)/\Bl w w':=by
 have⟨iC,hi,b1,b7,b8⟩:=aX Tryz.infoCur;obtain⟨ap,np,cp,rfl⟩:=d9;obtain⟨e0,ct,rfl,hc⟩:=ht;have⟨n,b9⟩:=Ex K.length;rw[<-b9]at hc hn a7 a5 |-;clear b9;have⟨Wx,V⟩:=Ex (w.alloc (.cells #[.slice ap np cp,sZ bb 0 nT cb] 178));have c7:Bl w Wx:=by rw[V];exact(bJ _ _).alloc (nR _) _
 have e2:Wx.1.size=w.1.size+1:=by rw[V];simp
 have c8:Wx.cell? (az w.1.size 1)=some (sZ bb 0 nT cb):=by rw[V,bE _ _ _ _ rfl];rfl
 have⟨Wm,a6,a3,M⟩:=run_makeSlice_owned Wx w.1.size 263 268 _ _ 2 underlying263 hi b1 b7 .i64 .i64 n Oo (by rw[b8];omega) Um Oo;have e3:=a6;have d0:=ay (c7.grown M Oo (λk hk=>by cases hk));have d1:=ay a3;have d2:=(bF (M.block _ (by show w.1.size<_;omega) (λe=>by cases e))).trans c8;have d3:∃cur,Wm.1[w.1.size]?=some (.cells cur 178 (0,0)):=⟨#[.slice ap np cp,sZ bb 0 nT cb],(M.block _ Oo (λe=>by cases e)).trans (by rw[V];exact eO)⟩;have d4:=ay d3;have HC:Hh (∀W,Bl w W->∀j,j<n->∃(b o:Nat),e0=some (az b o)/\aC W b (o+j) (ai (K.getD j 0))/\aC W bb ((K.getD j 0).toNat) (.pointer (some (az (nd j) 0)))):=λW hW j hj=>by
  rcases hc with h0|⟨b,o,rfl,h⟩;omega;exact⟨b,o,rfl,(hW.cell (bL w _ (h j hj))).trans (h j hj),(hW.cell (bL w _ (a5 j hj))).trans (a5 j hj)⟩
 have a8:=ay a7;clear hc a7 a5 a6 a3 M d3 c7;go_enter func188,ntmps188;go_upto_region 1 with fail;rw[<-V];clear V c8;go_upto_block 0 with fail;clear e3;go_wp2;go_loopw [5,13] (λv t wr=>∃(k:Nat) (vo:Value),k<=n/\t=ai k/\vo=v/\aC wr w.1.size 1 (sZ bb 0 nT cb)/\Hh (Bl w wr/\wr.ownsRow w.1.size 268 2 vo k (uF nd (λ_=>0) k)/\∃cur,wr.1[w.1.size]?=some (.cells cur 178 (0,0)))) (λ_ t _=>n-(intOf t).toNat);exact⟨0,_,eC,rfl,rfl,d2,ay ⟨d0,by have:=d1.o;rw[e2]at this;exact this,d4⟩⟩;clear d2 d0 d1 d4;obtain⟨k,vo,hk,rfl,rfl,d5,HT⟩:=hrel;by_cases d6:k<n
 .have i1:=aV d6;have⟨b,o,ea,c1,c2⟩:=HC _ HT.1 k d6;subst ea;have h3:=a8 k d6;have⟨t,ht⟩:=Ex ((K.getD k 0).toNat);have e1:K.getD k 0=(t:Int):=Oo;rw[e1]at c1 c2;have i2:(t:Int)<nT:=Oo;rw[show((t:Int)).toNat=t by omega]at c2;clear h3 ht e1 HC a8;have hs:=HT.1.size;go_wp2_with (first
   |(at_builtin;refine wpList_append_lies _ rfl _ _ 263 rfl _ 268 _ _ 2 _ underlying263 hi b1 b7 b8 rfl Dd vo _ _ rfl (HT.o.2.1.alloc _) (az _ 0) 1 1 [.pointer (some (az _ 0)),ai 0] rfl rfl (qDc) (λu hu=>by simp at hu;rcases hu with rfl|rfl <;> rfl) Dd Um Oo Sy _ rfl ?_;intro g3 cp3 w3 a4 I d7 d8)
   |fail)
  have⟨cur,O⟩:=HT.2.2;have a9:=zD I (qZ O) (own_ne HT.2.1 ⟨cur,O⟩ Dd);have e4:=(bF a9).trans d5;have HN:Hh (Bl w w3/\w3.ownsRow w.1.size 268 2 (sZ g3 0 (k+1) cp3) (k+1) (uF nd (λ_=>0) (k+1))/\∃cur,w3.1[w.1.size]?=some (.cells cur 178 (0,0))):=⟨(HT.1.alloc hs _).grown I Sy (λq hq=>(HT.2.1.lt q hq).1),by rw[jJ];exact a4,cur,a9.trans O⟩;clear a4 I d7 d8 HT d5 a9 O;go_roundw;exact⟨k+1,_,Oo,Gg,rfl,e4,HN⟩;exact Im
 obtain rfl:k=n:=Oo;have i1:=aY k;clear HC a8;go_wp2;go_ret;exact⟨vo,rfl,HT.2.1,HT.1⟩
theorem qAi{cu cc}(nd q:NN)(ba:Nat->OA)(M ca:NN)(h1:0<n)(hn:n<=1000)(O:∀j,j<n->w.cell? (az cu (j*2))=some (.pointer (some (az (nd j) 0)))/\w.cell? (az cu (j*2+1))=some (ai (q j)))
 (hv:∀j,j<n->w.cell? (az (nd j) 0)=some (.slice (ba j) (M j) (ca j))):
 Cl 189 #[sZ cu 0 n cc] w λe w'=>∃i,i<n/\e=.returned (.slice (ba i) (M i) (ca i))/\Bl w w':=by
 obtain⟨c0,-⟩:=O 0 h1;have v0:=hv 0 h1;rw[Nat.zero_mul]at c0;have i0:=aV h1;have HC:Hh (∀W,Bl w W->∀j,j<n->aC W cu (j*2) (.pointer (some (az (nd j) 0)))/\aC W cu (j*2+1) (ai (q j))/\W.cell? (az (nd j) 0)=some (.slice (ba j) (M j) (ca j))):=λW hW j V=>
  ⟨(hW.cell (bL w _ (O j V).1)).trans (O j V).1,(hW.cell (bL w _ (O j V).2)).trans (O j V).2,(hW.cell (bL w _ (hv j V))).trans (hv j V)⟩
 clear O hv;go_enter func189,ntmps189;go_upto_block 0 with fail;clear c0 v0;go_wp2;go_loopw [3,15] (λv t wr=>∃(k i:Nat),k<=n/\i<n/\t=ai k/\v=.slice (ba i) (M i) (ca i)/\Hh (Bl w wr)) (λ_ t _=>n-(intOf t).toNat);exact⟨0,0,eC,h1,rfl,rfl,ay eB⟩;obtain⟨k,i,hk,hi,rfl,rfl,HB⟩:=hrel;by_cases a3:k<n
 .have i1:(k:Int)<n:=Oo;have⟨c1,c2,c3⟩:=HC _ HB k a3;have⟨W2,I⟩:=Ex (wr.alloc (.cells #[.pointer (some (az (nd k) 0)),ai (q k)] 268));have K:Bl wr W2:=by rw[I];exact(bJ _ _).alloc (nR _) _
  have d1:W2.cell? (az wr.1.size 0)=some (.pointer (some (az (nd k) 0))):=by rw[I,bE _ _ _ _ rfl];rfl
  have d3:=(K.cell (bL _ _ c3)).trans c3;have a4:=ay (bt HB K);clear K HC c3;go_upto_region 5 with fail;rw[<-I];clear I c1 c2;by_cases a5:(M k:Int)<(M i:Int)
  .go_wp2;go_roundw;exact⟨k+1,k,Oo,a3,Gg,rfl,a4⟩;exact Im
  go_wp2;go_roundw;exact⟨k+1,i,Oo,hi,Gg,rfl,a4⟩;exact Im
 obtain rfl:k=n:=Oo;have i1:=aY k;clear HC;go_wp2;go_ret;exact⟨i,hi,rfl,HB⟩
theorem uC w v l(h:IS w v l)(hl:l.length<=100000):
 Cl 123 #[v] w λe w'=>∃v',e=.returned v'/\w'.ownsRow w.1.size 3 1 v' l.length (l.map ai)/\Bl w w':=by
 obtain⟨i0,hi,a5,a6,a7⟩:=info_parts Tryz.infoInt;obtain⟨a,cap,rfl,hc⟩:=h;cases a with
 |none=>
  have h0:l.length=0:=by
   rcases hc with h0|⟨b,o,e,-⟩;exact h0;cases e
  have e0:=List.eq_nil_of_length_eq_zero h0;subst e0;have hq:∀w:World,(binOp .eql 24 (.slice none 0 cap) sn).run Tryz.prog w=.ok (.bool true) w:=λw=>Lib.run_eql_slice_nil w _ 3 _ 0 _ 0 0 underlying24;go_enter func123,ntmps123;go_wp2;go_ret;exact⟨_,rfl,eK,eB⟩
 |some ad=>
  have hq:∀w:World,(binOp .eql 24 (.slice (some ad) l.length cap) sn).run Tryz.prog w=.ok (.bool false) w:=λw=>Lib.run_eql_slice_nil w _ 3 _ _ _ 0 0 underlying24;have M:(aJ w #[] 3).ownsRow w.1.size 3 1 (sZ w.1.size 0 0 0) 0 []:=oM w _ 0 eA Dd rfl;have a3:Bl w (aJ w #[] 3):=aK;by_cases h0:l.length=0
  .have e0:=List.eq_nil_of_length_eq_zero h0;subst e0;have b7:∀w:World,(binOp .eql 24 (.slice (some ad) 0 cap) sn).run Tryz.prog w=.ok (.bool false) w:=hq;clear hq hc h0;go_enter func123,ntmps123;go_wp2_with (at_builtin;refine wpList_append_own _ rfl _ _ 24 rfl _ 3 _ _ 1 8 underlying24 hi a5 a6 a7 rfl Dd (sZ _ 0 0 0) 0 _ rfl M _ 0 _ [] rfl rfl (λj u V=>by simp at V) (λu V=>by cases V) Um Oo Ss ?_;intro v3 w3 K I _);go_ret;exact⟨_,rfl,K,a3.grown I Ss (λk hk=>(M.lt k hk).1)⟩
  obtain⟨b,o,e,a4⟩:∃b o,some ad=some ((az b o):Addr)/\∀j,j<l.length->aC w b (o+j) (ai (l.getD j 0)):=by
   rcases hc with h1|h1;omega;exact h1
  obtain rfl:=Option.some.inj e;clear hc e;have O:∀j u,(l.map ai)[j]?=some u->(aJ w #[] 3).cell? (((az b o):Addr).add j)=some u:=λj u V=>by
   have hj:j<l.length:=by
    rcases dL j l.length with h|h;exact h;rw[gN (by simpa using h)]at V;cases V
   rw[show(((az b o):Addr).add j)=(az b (o+j))by unfold Addr.add;split <;> simp_all,a3.cell (p:=az b (o+j)) (bL w _ (a4 j hj)),a4 j hj,<-V,bK,gD,gE hj];rfl
  change Hh _ at O;clear a4;obtain⟨n,hn⟩:=Ex l.length;change Hh _ at hn;rw[<-hn]at hq hl h0 |-;go_enter func123,ntmps123;go_wp2_with (at_builtin;refine wpList_append_lies _ rfl _ _ 24 rfl _ 3 _ _ 1 8 underlying24 hi a5 a6 a7 rfl Dd (sZ _ 0 0 0) 0 _ rfl M _ n _ _ rfl (by rw[lM,hn.o];omega) O.o (λu V=>by obtain⟨x,_,rfl⟩:=cC.1 V;rfl) Oo Um Oo Ss _ rfl ?_;intro g3 cp3 w3 K I a9 b1);go_ret;refine⟨_,rfl,?_,a3.grown I Ss (λk hk=>(M.lt k hk).1)⟩;simpa using K
theorem Tryz.infoTriP:(Tryz.prog.info? 181).map (λi=>(i.zero,i.size,i.bytes))=some (some (.pointer none),1,8):=Kl
theorem qEq(h:W.ownsRow B e 1 (sZ g 0 n c) n xs):∀j u,xs[j]?=some u->W.cell? (((az g 0):Addr).add j)=some u:=h.cells rfl
theorem Ja w B g cap n(xs:LV)(h:w.ownsRow B 181 1 (sZ g 0 n cap) n xs)(h0:0<n)(hl:n<=100000)(O:∀u∈xs,u.oneCell'=true):
 Cl 231 #[sZ g 0 n cap] w λe w'=>∃g' c',e=.returned (sZ g' 0 n c')/\w'.ownsRow w.1.size 181 1 (sZ g' 0 n c') n xs/\Bl w w':=by
 have⟨i0,hi,a3,a4,a5⟩:=aX Tryz.infoTriP;have hq:∀w:World,(binOp .eql 176 (sZ g 0 n cap) sn).run Tryz.prog w=.ok (.bool false) w:=λw=>Lib.run_eql_slice_nil w _ 181 (some (az g 0)) n _ 0 0 underlying176;have K:(aJ w #[] 181).ownsRow w.1.size 181 1 (sZ w.1.size 0 0 0) 0 []:=oM w _ 0 eA Dd rfl;have V:Bl w (aJ w #[] 181):=aK;have a6:=ay (qEq (qB h V));have HL:=ay h.1;clear h;go_enter func231,ntmps231;go_wp2_with (at_builtin;refine wpList_append_lies _ rfl _ _ 176 rfl _ 181 _ _ 1 8 underlying176 hi a3 a4 a5 rfl Dd (sZ _ 0 0 0) 0 _ rfl K (az g 0) n _ _ rfl HL.o a6.o O Oo Um Oo Ss _ rfl ?_;intro g3 cp3 w3 M I a7 a8);go_ret;refine⟨g3,cp3,rfl,?_,V.grown I Ss (λk hk=>(K.lt k hk).1)⟩;simpa using M
theorem qC(h:Bl A X)o:Bl A (X.alloc o):=h.alloc h.size o
theorem qT(h:Bl A X):Bl A X.drew:=h.drew
theorem YJ{v}(K:k=X.1.size)(hb:Below (X.alloc (.cells #[v] t)).1.size (X.alloc (.cells #[v] t)) W):∀j u,[v][j]?=some u->W.cell? (((az k 0):Addr).add j)=some u:=λj u M=>by
 subst K;have I:=qH X v t j u M;exact(hb.cell (bL _ _ I)).trans I
theorem xT{v}(h:w.ownsRow B e s v n xs):∃a cap,v=.slice a n cap:=by
 rcases h.2 with ⟨rfl,rfl⟩|⟨g,cap,cur,rfl,-⟩;exact⟨_,_,rfl⟩;exact⟨_,_,rfl⟩
def BrX(W:World)(k:Nat)(x y:Value):Prop:=W.1[k]?=some (.cells #[x,y] 178 (0,0))
theorem BrX.new(W:World)x y:BrX (W.alloc (.cells #[x,y] 178)) W.1.size x y:=eO
theorem BrX.lt(h:BrX W k x y):k<W.1.size:=qZ h
theorem BrX.below(h:BrX W k x y)(hb:Bl W W'):BrX W' k x y:=(hb.block k h.lt).trans h
theorem BrX.c0(h:BrX W k x y):W.cell? (az k 0)=some x:=by rw[eI h];rfl
theorem BrX.c1(h:BrX W k x y):W.cell? (az k 1)=some y:=by rw[eI h];rfl
theorem BrX.free(h:BrX W k x y)j:W.frozen? (az k j)=false:=by unfold World.frozen?;rw[show W.1[k]?=_ from h];simp
theorem BrX.set(h:BrX W k x y)u v:BrX ((W.setCell (az k 0) u).setCell (az k 1) v) k u v:=by
 unfold BrX;rw[eN (eN h)];rfl
theorem BrX.grown(h:BrX W k x y)(I:W.ownsRow B e s u n xs)(K:e≠178)(M:(W.alloc o).grownBy w3 u.ownBlock):BrX w3 k x y:=(zD M h.lt (own_ne I ⟨_,h⟩ K)).trans h
theorem vm{v}(h:W.ownsRow B e s v n xs)(K:BrX W k x y)(M:e≠178):((W.setCell (az k 0) u1).setCell (az k 1) u2).ownsRow B e s v n xs:=
 qD h λg O=>by
  have I:g≠k:=λV=>own_ne h ⟨_,K⟩ M (by rw[<-V];exact O.symm);rw[eG I,eG I]
structure WiE(w:World)(p:LI)(xv:Int)(nT:Nat)(bs:LV)(k:Nat)(wc:World)(g c g' c':Nat):Prop where
 box:BrX wc k (sZ g 0 (p.length+1) c) (sZ g' 0 nT c')
 op:wc.ownsRow w.1.size 3 1 (sZ g 0 (p.length+1) c) (p.length+1) ((p++[xv]).map ai)
 ob:wc.ownsRow w.1.size 181 1 (sZ g' 0 nT c') nT bs
 bel:Bl w wc
 low:w.1.size<=k
def vX(bs:LV)(ts:LI)(y:NN):Nat->LV
 |0=>bs
 |k+1=>(vX bs ts y k).set (ts.getD k 0).toNat (.pointer (some (az (y k) 0)))
theorem qFD(n:Nat)(I:n<=100000):bits .and .u64 (n:Int) 4294967295=(n:Int):=by
 have h:=bits_and_u64_nat n 4294967295 Oo Oo;rw[show((4294967295:Nat):Int)=4294967295 by rfl]at h;rw[h];have:n&&& 4294967295=n:=by
  rw[show(4294967295:Nat)=2 ^ 32-1 by rfl,Nat.and_two_pow_sub_one_eq_mod];exact Nat.mod_eq_of_lt Oo
 rw[this]
theorem qFE w(n:Nat)(I:n<=100000):
 aF 195 #[.int .u64 1,.int .u64 n] w (.tuple #[.int .u64 0,.int .u64 n]) λw'=>w'=w:=by
 have K:bits .and .u64 1 4294967295=1:=Dd;have b0:bits .and .u64 0 4294967295=0:=Dd;have b2:=qFD n I;have M:(n:Int) / 4294967296=0:=Oo;have w1:IntKind.u64.wrap (n:Int)=n:=by simp[IntKind.wrap,IntKind.bits,IntKind.signed];omega
 have w0:IntKind.u64.wrap 0=0:=Dd;go_enter func195,ntmps195;go_wp2;go_ret2;exact⟨rfl,rfl⟩
theorem mul_one w(n:Nat)(I:n<=100000):
 aF 159 #[.int .u64 1,.int .u64 n] w (.tuple #[.int .u64 0,.int .u64 n]) λw'=>w'=w:=by
 go_enter func159,ntmps159;go_wp2_with fail;apply (ay (qFE w n I)).o.mn;intro w1 M;subst w1;go_wp2;go_ret2;exact⟨rfl,rfl⟩
def fil(n m:Nat):LV:=List.replicate m (ai 1)++List.replicate (n-m) (ai 0)
theorem qIE(h:m<=n):(fil n m).length=n:=by simp[fil];omega
theorem qDy:splice (fil n m) m (List.replicate c (ai 1))=fil n (m+c):=by
 unfold splice fil;rw[List.take_left' Ss,dT,List.drop_append,dT,show m+c-m=c by omega,List.drop_replicate,show m-(m+c)=0 by omega,List.replicate_zero,List.nil_append,List.drop_replicate,<-dN,List.replicate_append_replicate,show n-m-c=n-(m+c)by omega]
theorem qIF(h:j<m)v(hv:(List.replicate m (ai 1))[j]?=some v):v=ai 1:=by
 rw[List.getElem?_replicate]at hv;rw[fE h]at hv;exact(Option.some.inj hv).symm
theorem qFF(I:0<n):(fil n 0).toArray.setIfInBounds 0 (ai 1)=(fil n 1).toArray:=by
 obtain⟨k,rfl⟩:∃k,n=k+1:=⟨n-1,Oo⟩;simp[fil,List.replicate_succ]
structure Fil(w W:World)(n m:Nat):Prop where
 bel:Bl w W
 blk:W.1[w.1.size]?=some (.cells (fil n m).toArray 3 (0,0))
theorem qBR w b(n:Nat)(hn:n<=100000)(hx:w.cell? (az b 0)=some (ai 1)):
 Cl 124 #[sZ b 0 1 1,ai n] w λe w'=>∃v,e=.returned v/\w'.ownsRow w.1.size 3 1 v n (List.replicate n (ai 1))/\Bl w w':=by
 have⟨i0,hi,a7,a3,a8⟩:=aX Tryz.infoInt;have g1:¬((n:Int)<0):=Oo;have w1:IntKind.u64.wrap (n:Int)=n:=by simp[IntKind.wrap,IntKind.bits,IntKind.signed];omega
 have w2:IntKind.i64.wrap (n:Int)=n:=by simp[IntKind.wrap,IntKind.bits,IntKind.signed];omega
 have g2:¬((9223372036854775807:Int)<n):=Oo;change Hh _ at hx;have a9:b<w.1.size:=bL w _ hx;go_enter func124,ntmps124;go_wp2_with fail;apply (ay (mul_one w n hn)).o.mn;intro w' c7;subst w';go_wp2_with (at_make;refine wpList_make_full _ rfl _ _ 24 rfl _ 3 _ _ 1 underlying24 hi a7 a3 _ _ _ _ n rfl rfl rfl rfl ?b2 ?b3 eA ?_)
 case b2=>rw[a8];omega
 case b3=>unfold maxLen;omega
 intro w0 M K;have I:Hh (Fil w w0 n 0):=⟨eB.grown K eA (λj V=>by cases V),by
  rcases M.2 with ⟨e,-⟩|⟨g',b8,cur,e,-,hc,-,-,hs,ht⟩;cases e
  simp only[vI,oI,Addr.mk.injEq,true_and,and_true]at e;obtain⟨rfl,rfl⟩:=e;rw[hc];have:cur.toList=fil n 0:=by
   rw[<-List.take_of_length_le (l:=cur.toList) (i:=n*1) Sy,ht];rw[toList_madeCells_one];simp[fil]
  rw[<-this]⟩
 have hsz:(Tryz.prog.info? 3).map (·.size)=some 1:=by rw[hi];simp[a3]
 clear M K;have c8:Hh (∀W m c,m+c<=n->Fil w W n m->W.1[w.1.size]?=some (.cells (fil n m).toArray 3 (0,0))):=λW m c _ h=>h.blk;by_cases hn0:n=0
 .subst hn0;have a4:∀ty,(Builtin.copy_ #[24,24] ty #[sZ w.1.size 0 0 0,sZ b 0 1 1]).run Tryz.prog w0=.ok (goInt 0) w0:=λty=>run_copy_none _ _ _ _ 3 _ _ 0 0 1 1 underlying24 hsz rfl;have c9:goInt 0=ai 0:=rfl;go_wp2_with fail;refine wp_loop_rounds 1 ?_;rw[rounds_succ];go_wp2;go_ret;refine⟨_,rfl,⟨Ss,.inr ⟨w.1.size,0,_,rfl,eA,I.o.blk,eA,eC,by simp[fil],by simp[fil]⟩⟩,I.o.bel⟩
 have a4:∀ty,(Builtin.copy_ #[24,24] ty #[sZ w.1.size 0 n n,sZ b 0 1 1]).run Tryz.prog w0=.ok (goInt 1) (sC w0 w.1.size 0 (ai 1)):=λty=>
  run_copy_cells _ _ _ _ 3 _ 0 n n (az b 0) 1 1 [ai 1] underlying24 hsz (by show 1=Nat.min 1 n;exact(Nat.min_eq_left Oo).symm) (λj v hv=>by
   match j,hv with
   |0,hv=>
    simp at hv;subst hv;rw[show(((az b 0):Addr).add 0)=(az b 0)by rfl];exact(I.o.bel.cell a9).trans hx) (λj V=>by
   simp at V;subst V;rw[eI I.o.blk];simp[fil];omega) (λj _=>by unfold World.frozen?;rw[I.o.blk];simp) (λv hv=>by simp at hv;subst hv;rfl)
 have hg1:goInt 1=ai 1:=rfl;have a5:Hh (Fil w (sC w0 w.1.size 0 (ai 1)) n 1):=⟨I.o.bel.setCell eA _,by
  rw[eN I.o.blk,<-qFF Oo]⟩
 clear I;generalize sC w0 w.1.size 0 (ai 1)=W1 at *;go_wp2_with fail;clear a4;go_loopw [8] (λt wr=>∃m:Nat,1<=m/\m<=n/\t=ai m/\Hh (Fil w wr n m)) (λt _=>n-(intOf t).toNat);exact⟨1,eA,Oo,Gg,a5⟩;clear a5;obtain⟨m,b1,b7,rfl,O⟩:=hrel;by_cases d0:m<n
 .have i1:=aV d0;have q1:¬n=m:=Oo;have q2:m<=n:=Oo;have q3:(m:Int)<=n:=Oo;have⟨c,hc⟩:=Ex (Nat.min m (n-m));have hc1:1<=c/\m+c<=n:=by
   rw[hc];have h1:Nat.min m (n-m)<=n-m:=Nat.min_le_right _ _;have h2:1<=Nat.min m (n-m):=Nat.le_min.2 ⟨b1,Oo⟩;omega
  have a6:Hh (∀W:World,W.1[w.1.size]?=some (.cells (fil n m).toArray 3 (0,0))->∀j v,(List.replicate c (ai 1))[j]?=some v->W.cell? (((az w.1.size 0):Addr).add j)=some v):=λW hW j v hv=>by
   have V:j<c:=by
    rcases dL j c with h|h;exact h;rw[gN (by simpa using h)]at hv;cases hv
   rw[qIF V v hv,show(((az w.1.size 0):Addr).add j)=(az w.1.size j)by unfold Addr.add;split <;> simp_all,eI hW];have d1:c<=m:=by rw[hc];exact Nat.min_le_left _ _
   show(fil n m).toArray[j]?=_;rw[List.getElem?_toArray];unfold fil;rw[aL (by rw[dT];omega),List.getElem?_replicate,fE Oo]
  have b9:=λty=>by
   have h:=run_copy_row (P:=Tryz.prog) wr.drew 24 24 ty 3 _ m (n-m) (n-m) _ m n _ 3 _ underlying24 hsz O.o.blk (by rw[dT];exact hc) (a6 _ O.o.blk) (by rw[List.size_toArray,qIE b7,dT];exact hc1.2) (λv hv=>by rw[List.eq_of_mem_replicate hv];rfl);rw[dT]at h;have e:=qDy (n:=n) (m:=m) (c:=c);unfold splice at e;rw[dT]at e;rw[dN,e]at h;exact h
  have d2:goInt c=ai c:=rfl;have HN:Hh (Fil w (wr.drew.setRow w.1.size (fil n (m+c)).toArray) n (m+c)):=⟨below_setRow O.o.bel.drew eA _,setRow_heap _ _ _ _ _ _ O.o.blk⟩;clear O a6 hc;go_upto_region 9 with fail;go_region
  go_wp2;go_roundw;exact⟨m+c,Oo,Oo,Gg,HN⟩;exact Im
 obtain rfl:m=n:=Oo;have i1:=aY m;go_wp2;go_ret;refine⟨_,rfl,⟨Ss,.inr ⟨w.1.size,m,_,rfl,eA,O.o.blk,eA,Um,by simp[fil],by simp[fil]⟩⟩,O.o.bel⟩
theorem QO(h:Below a.drew.1.size a.drew b):Bl a b:=⟨h.os,h.tape,h.output,h.size,h.block⟩
theorem qt{v}(h:w.ownsRow B e s v n xs):∃a cap,v=.slice a n cap:=by
 rcases h.2 with ⟨rfl,I⟩|⟨g,cap,cur,rfl,_⟩;exact⟨none,0,by rw[I]⟩;exact⟨_,cap,rfl⟩
theorem qI{p I v}(h:W.ownsRow B e s v n xs)(K:∃cur,W.1[p]?=some (.cells cur I (0,0)))(M:e≠I):(W.setCell (az p off) y).ownsRow B e s v n xs:=
 qD h λg O=>eG (by rintro rfl;exact own_ne h K M O.symm)
theorem RQ.set{p v}(h:RQ W B v us ls)(I:∃cur,W.1[p]?=some (.cells cur 58 (0,0))):RQ (W.setCell (az p off) y) B v us ls:=
 ⟨qI h.own I Dd,h.len,λi hi=>qI (h.each i hi) I Dd,h.ap⟩
theorem RQ.sl{v}(h:RQ W B v us ls):∃a cap,v=.slice a ls.length cap:=qt h.own
structure TX(W:World)(p:Nat)(v0 v1 v2:Value):Prop where
 blk:W.1[p]?=some (.cells #[v0,v1,v2] 58 (0,0))
section
variable {W W':World} {p:Nat} {v0 v1 v2:Value}
theorem TX.lt(h:TX W p v0 v1 v2):p<W.1.size:=by
 rcases dL p W.1.size with I|I;exact I;have:=h.blk;rw[dO I]at this;cases this
theorem TX.below(h:TX W p v0 v1 v2)(hb:Bl W W'):TX W' p v0 v1 v2:=⟨(hb.block p h.lt).trans h.blk⟩
theorem TX.c0(h:TX W p v0 v1 v2):W.cell? (az p 0)=some v0:=by rw[eI h.blk];rfl
theorem TX.c1(h:TX W p v0 v1 v2):W.cell? (az p 1)=some v1:=by rw[eI h.blk];rfl
theorem TX.c2(h:TX W p v0 v1 v2):W.cell? (az p 2)=some v2:=by rw[eI h.blk];rfl
theorem TX.free(h:TX W p v0 v1 v2)j:W.frozen? (az p j)=false:=by unfold World.frozen?;rw[h.blk];simp
theorem TX.typ(h:TX W p v0 v1 v2):∃cur,W.1[p]?=some (.cells cur 58 (0,0)):=⟨_,h.blk⟩
theorem TX.made(W:World)v0 v1 v2:TX (W.alloc (.cells #[v0,v1,v2] 58)) W.1.size v0 v1 v2:=⟨eO⟩
end
theorem yR w vv vr vars n(hv:IS w vv vars)(hr:∃a c,vr=.slice a n c)(hlv:vars.length<=1000)(hn:n<=100000):
 Cl 86 #[vv,vr] w λe w'=>∃v0 v2,e=.returned (.agg #[v0,vr,v2])/\w'.ownsRow w.1.size 3 1 v0 vars.length (vars.map ai)/\w'.ownsRow w.1.size 3 1 v2 n (List.replicate n (ai 1))/\Ap' v0 v2/\Bl w w':=by
 have⟨W1,O⟩:=Ex (w.alloc (.cells #[sn,sn,sn] 58));have a5:Bl w W1:=by rw[O];exact(bJ _ _).alloc (nR _) _
 have a9:Hh (TX W1 w.1.size sn sn sn):=(by rw[O];exact TX.made _ _ _ _);have KC:=ay (uC _ _ _ (hv.below a5) Oo);have a6:=ay a5;obtain⟨ar,cr,rfl⟩:=hr;obtain⟨av,cv,rfl,-⟩:=hv;clear a5;go_enter func86,ntmps86;go_upto_region 1 with fail;rw[<-O];clear O;go_wp2_with fail;apply KC.o.mono;rintro e w2 ⟨v0,rfl,V,a7⟩;have b1:=ay (a9.o.below a7);have a8:=ay (bt a6 a7);have b7:=ay (qE V a6.o.size);obtain⟨a0,c0,rfl⟩:=qt V;have b8:=ay (λg hg=>(V.lt g hg).2);clear V a7 KC a9 a6;have hs2:=a8.o.size;go_wp2_with fail;apply (ay (qBR (w2.alloc (.cells #[ai 1] 3)) w2.1.size n hn (by rw[bE _ _ _ _ rfl];rfl))).o.mono;rintro e w3 ⟨v2,rfl,a3,c7⟩;have K:=bt (aK) c7;have I:=ay (b1.o.below K);have c8:=ay (bt a8 K);have c9:=ay (qB b7 K);have d3:=ay (qE (B':=w.1.size) a3 Sy);have d4:Hh (Ap' (.slice a0 vars.length c0) v2):=λg h1 h2=>by
  have e1:=b8 g h1;have e2:=(a3.lt g h2).1;simp at e2;omega
 obtain⟨a2,c2,rfl⟩:=qt a3;clear a3 c7 K b1 a8 b7 b8;have d0:=I.o.c0;have d1:=I.o.c1;have d2:=I.o.c2;have f0:=I.o.free 0;have f1:=I.o.free 1;have f2:=I.o.free 2;have M:=ay I.o.typ;generalize hnv:vars.length=nv at *;have d5:=ay hnv;clear hnv;go_wp2_with fail;refine aU (by simp[results,results86,go_sem,d0,d1,d2]) rfl ⟨_,_,rfl,?_,?_,d4.o,?_⟩;rw[d5.o];exact qI (qI (qI c9 M Dd) (qU M) Dd) (qU (qU M)) Dd;exact qI (qI (qI d3 M Dd) (qU M) Dd) (qU (qU M)) Dd;exact((c8.o.setCell (nR _) _).setCell (nR _) _).setCell eA _
theorem uV w vv{ws}(h:IT w v0 v1 v2 vs rows ws)(hv:IS w vv vars)(hlv:vars.length<=1000)(b8:vs.length<=1000)(hn:rows.length<=100000)(O:∀r∈rows,r.length=vs.length):
 Cl 126 #[.agg #[v0,v1,v2],vv] w λe w'=>∃v uo,e=.returned v/\RQ w' w.1.size v uo (srt (xC rows (plc (λi=>decide (vs.getD i 0∈vars)) vs.length)))/\Bl w w':=by
 obtain⟨W1,K⟩:=Ex (w.alloc (.cells #[v0,v1,v2] 58));have I:Bl w W1:=by rw[K];exact(bJ _ _).alloc (nR _) _
 have a4:Hh (TX W1 w.1.size v0 v1 v2):=ay (by rw[K];exact TX.made _ _ _ _);have KP:=ay λW hW=>zq W _ _ _ _ (h.vs.below (bt I hW)) (hv.below (bt I hW)) Oo Oo;have b9:=xq (λi=>decide (vs.getD i 0∈vars)) vs.length;have V:∀p∈plc (λi=>decide (vs.getD i 0∈vars)) vs.length,0<=p/\p<(vs.length:Int):=λp hp=>by
  unfold plc at hp;rw[cC]at hp;obtain⟨j,hj,e⟩:=hp;rw[cK,cJ]at hj;simp only[Int.ofNat_eq_natCast]at e;omega
 have KR:Hh (∀W u,Bl W1 W->IS W u (plc (λi=>decide (vs.getD i 0∈vars)) vs.length)->Cl 156 #[v1,u] W λe w'=>∃v uo,e=.returned v/\RQ w' W.1.size v uo (srt (xC rows (plc (λi=>decide (vs.getD i 0∈vars)) vs.length)))/\Bl W w'):=ay λW u hW hu=>
  Z7 W u _ (h.rows.below (bt I hW)) hu Oo Oo (λr hr p hp=>by rw[O r hr];exact V p hp)
 have a6:=ay I;obtain⟨a0,c0,e0,-⟩:=h.vs;obtain⟨a1,c1,e1,-⟩:=h.rows;obtain⟨a2,c2,e2,-⟩:=h.ws;obtain⟨av,cv,e3,-⟩:=hv;subst e0 e1 e2 e3;clear I V h O;generalize plc (λi=>decide (vs.getD i 0∈vars)) vs.length=pl at *;generalize vs.length=l0,rows.length=l1,ws.length=l2,vars.length=l3 at *;have d0:=a4.o.c0;have d1:=a4.o.c1;go_enter func126,ntmps126;go_upto_region 1 with fail;rw[<-K];clear K;go_region_law (first
  |(go_simp;go_at_call 121;(with_reducible refine(KP.o _ (bJ _ _).drew).mono ?_);rintro e w2 ⟨u2,rfl,a5,a3⟩;have M:=QO a3;have a7:=ay (qN a5);have c7:=(a4.o.below M).c1;obtain⟨a9,c9,e9⟩:=qt a5;subst e9;clear a5 a3)
  |(go_simp;go_at_call 156;(with_reducible refine(KR.o _ _ M a7.o).mono ?_);rintro e w3 ⟨u3,a8,rfl,b1,b7⟩))
 all_goals
  go_wp2
  go_ret
  exact⟨_,a8,rfl,b1.base (bM a6.o.size M.size),bt (bt a6 M) b7⟩
theorem J2:∀{a b:LI},a.Pairwise (·< ·)->b.Pairwise (·< ·)->(∀x,x∈a↔x∈b)->a=b
 |[],[],_,_,_=>rfl
 |[],y::b,_,_,h=>by have:=(h y).2 (cY ..);cases this
 |x::a,[],_,_,h=>by have:=(h x).1 (cY ..);cases this
 |x::a,y::b,ha,hb,h=>by
  rw[List.pairwise_cons]at ha hb;have K:x=y:=by
   rcases cH.1 ((h x).1 (cY ..))with e|e;exact e;rcases cH.1 ((h y).2 (cY ..))with M|M;exact M.symm;have O:=hb.1 x e;have V:=ha.1 y M;omega
  subst K;rw[J2 (a:=a) (b:=b) ha.2 hb.2 λz=>?_];constructor
  .intro I;rcases cH.1 ((h z).1 (mC _ I))with e|e;subst e;have:=ha.1 _ I;omega;exact e
  intro I;rcases cH.1 ((h z).2 (mC _ I))with e|e;subst e;have:=hb.1 _ I;omega;exact e
theorem jL:∀vs r p,vs.Pairwise (·< ·)->p<vs.length->vlF vs r (vs.getD p 0)=r.getD p 0
 |[],_,p,_,h=>by simp at h
 |x::vs,r,0,_,_=>by simp[vlF]
 |x::vs,r,p+1,h,hp=>by
  rw[List.pairwise_cons]at h;simp only[cQ]at hp;have I:vs.getD p 0∈vs:=by rw[gD,gE Oo];exact gM _
  have K:=h.1 _ I;show vlF (x::vs) r (vs.getD p 0)=_;rw[vlF,fF Oo,jL vs (r.drop 1) p h.2 Oo,jO,Nat.add_comm]
theorem Xu(vs:LI):(plc (λi=>decide (vs.getD i 0∈vars)) vs.length).map (λp=>vs.getD p.toNat 0)=vs.filter (λx=>decide (x∈vars)):=by
 unfold plc;rw[List.map_map];have e:vs=(List.range vs.length).map (λi=>vs.getD i 0):=by
  refine List.ext_getElem? λi=>?_;by_cases h:i<vs.length;rw[bK,List.getElem?_range h,gE h,Option.map_some,gD,gE h];rfl;rw[gN Oo,gN Sy]
 have I:vs.filter (λx=>decide (x∈vars))=((List.range vs.length).filter λi=>decide (vs.getD i 0∈vars)).map λi=>vs.getD i 0:=by
  conv=>lhs;rw[e]
  rw[List.filter_map];rfl
 rw[I];rfl
theorem qA9{r}(K:vs.Pairwise (·< ·))(O:vars.Pairwise (·< ·))(hs:∀x∈vars,x∈vs):atP r (plc (λi=>decide (vs.getD i 0∈vars)) vs.length)=qQ vs vars r:=by
 have hv:vs.filter (λx=>decide (x∈vars))=vars:=J2 (K.filter _) O λx=>by
  rw[cK,dE];exact⟨λh=>h.2,λh=>⟨hs x h,h⟩⟩
 unfold qQ atP;conv=>rhs;rw[<-hv,<-Xu]
 rw[List.map_map];refine cV λp I=>?_;unfold plc at I;rw[cC]at I;have⟨j,M,e⟩:=I;rw[cK,cJ]at M;simp only[Int.ofNat_eq_natCast]at e;subst e;simp only[Function.comp_apply,Int.toNat_natCast];rw[jL vs r j K M.1]
theorem JA(I:vs.Pairwise (·< ·))(K:vars.Pairwise (·< ·))(hs:∀x∈vars,x∈vs):xC rows (plc (λi=>decide (vs.getD i 0∈vars)) vs.length)=rows.map (qQ vs vars):=
 cV λ_ _=>qA9 I K hs
def Z3(a b:LI):Bool:=a.all λx=>decide (x∈b)
theorem qBA a b:decide ((plc (λi=>decide (a.getD i 0∈b)) a.length).length<a.length)=!Z3 a b:=by
 have key:∀n,(∀i,i<n->decide (a.getD i 0∈b)=true)/\(plc (λi=>decide (a.getD i 0∈b)) n).length=n\/(∃i,i<n/\decide (a.getD i 0∈b)=false)/\(plc (λi=>decide (a.getD i 0∈b)) n).length<n:=by
  intro n;induction n with
  |zero=>exact .inl ⟨λi hi=>Oo,rfl⟩
  |succ n M=>
   cases hd:decide (a.getD n 0∈b)
   have:=xq (λi=>decide (a.getD i 0∈b)) n;rw[kQ _ _ hd];exact .inr ⟨⟨n,Oo,hd⟩,Oo⟩;rw[Qe _ _ hd,lA,lS];rcases M with ⟨I,K⟩|⟨⟨i,hi,I⟩,K⟩
   .refine .inl ⟨λi hi=>?_,Oo⟩;by_cases e:i=n;rw[e];exact hd;exact I i Oo
   exact .inr ⟨⟨i,Oo,I⟩,Oo⟩
 unfold Z3;rcases key a.length with ⟨I,K⟩|⟨⟨i,hi,I⟩,K⟩
 .rw[fC Oo];have:(a.all λx=>decide (x∈b))=true:=by
   rw[aT];intro x O;have⟨i,hi,e⟩:=gO O;have:=I i hi;rw[gD,gE hi,dI,e]at this;exact this
  rw[this];rfl
 rw[fD K];have:(a.all λx=>decide (x∈b))=false:=by
  rw[List.all_eq_false];refine⟨a[i],gM _,?_⟩;rw[gD,gE hi,dI]at I;rw[I];decide
 rw[this];rfl
theorem Xa:∀(n:Nat) {a b:LI},cmpL a b<=0->cmpL (a.take n) (b.take n)<=0
 |0,a,b,_=>by simp[cmpL]
 |n+1,[],[],_=>by simp[cmpL]
 |n+1,[],y::b,_=>by simp[cmpL]
 |n+1,x::a,[],h=>by simp[cmpL]at h
 |n+1,x::a,y::b,h=>by
  simp only[List.take_succ_cons];unfold cmpL at h |-;by_cases I:x<y;rw[fE I];omega;rw[fF I]at h |-;by_cases K:y<x;rw[fE K]at h;omega;rw[fF K]at h |-;exact Xa n h
theorem qIH{a b c}(K:cmpL a b<=0)(I:cmpL b c<0):cmpL a c<0:=by
 rcases Int.lt_or_eq_of_le K with h|h;exact zi h I;rw[cmpL_eq h];exact I
theorem qD4(h:SL rows)(M:i<=j)(I:j<rows.length):cmpL (rows.getD i []) (rows.getD j [])<=0:=by
 rcases dL i j with K|K;have:=List.pairwise_iff_getElem.1 h i j Oo I K;rw[gD,gE Oo,gD,gE I];exact Int.le_of_lt this;rw[show i=j by omega,zj];exact Int.le_refl _
structure Sk(rows:LL)(q:LI)(k:Nat):Prop where
 le:k<=rows.length
 lo:∀j,j<k->cmpL ((rows.getD j []).take q.length) q<0
 hi:∀j,k<=j->j<rows.length->¬cmpL ((rows.getD j []).take q.length) q<0
def vf(rows:LL)(q:LI):Bool:=rows.any λr=>decide (r.take q.length=q)
theorem qC5(h:SL rows)(I:i<=j)(K:j<rows.length)(M:cmpL ((rows.getD j []).take q.length) q<0):cmpL ((rows.getD i []).take q.length) q<0:=
 qIH (Xa _ (qD4 h I K)) M
theorem Sk.beg(hS:SL rows)(h:Sk rows q k):vf rows q=(decide (k<rows.length)&&decide (cmpL ((rows.getD k []).take q.length) q=0)):=by
 unfold vf;by_cases I:k<rows.length/\cmpL ((rows.getD k []).take q.length) q=0;rw[fD I.1,fD I.2];refine List.any_eq_true.2 ⟨rows[k]'I.1,gM _,fD ?_⟩;have:=cmpL_eq I.2;rw[gD,gE I.1]at this;exact this;have e:(decide (k<rows.length)&&decide (cmpL ((rows.getD k []).take q.length) q=0))=false:=by
  rcases Classical.em (k<rows.length)with K|K;rw[fC (p:=cmpL _ q=0) (λh2=>I ⟨K,h2⟩)];simp;rw[fC K];rfl
 rw[e,List.any_eq_false];intro r hr M;have⟨j,O,ej⟩:=gO hr;have M:=aN M;have V:(rows.getD j []).take q.length=q:=by rw[gD,gE O,<-M,<-ej];simp
 have hkj:k<=j:=by
  rcases dL j k with K|K;have:=h.lo j K;rw[V,zj]at this;omega;exact K
 have h3:=Xa q.length (qD4 hS hkj O);rw[V]at h3;have h4:=h.hi k eA Oo;exact I ⟨Oo,Oo⟩
def shr(va vb:LI):LI:=va.filter λx=>decide (x∈vb)
theorem Z9(h:I.Pairwise (·< ·)):(shr I vb).Pairwise (·< ·):=h.filter _
theorem zu{x}(h:x∈shr I vb):x∈I:=(cK.1 h).1
theorem uA{x}(h:x∈shr I vb):x∈vb:=aN (cK.1 h).2
theorem j7 I vb:(shr I vb).length<=I.length:=dH _ _
theorem jt I vb:atP I (plc (λi=>decide (I.getD i 0∈vb)) I.length)=shr I vb:=Xu I
theorem qII I vb:plc (λi=>decide (I.getD i 0∈shr I vb)) I.length=plc (λi=>decide (I.getD i 0∈vb)) I.length:=by
 unfold plc;congr 1;refine List.filter_congr λi hi=>?_;rw[cJ]at hi
 refine decide_eq_decide.2 ⟨uA,λh=>cK.2 ⟨by rw[gD,gE hi];exact gM _,fD h⟩⟩
theorem qC6{r}(h:I.Pairwise (·< ·)):atP r (plc (λi=>decide (I.getD i 0∈vb)) I.length)=qQ I (shr I vb) r:=by
 rw[<-qII];exact qA9 h (Z9 h) λx=>zu
def Ya(va vb:LI)(rb:LL):LL:=srt (rb.map (qQ vb (shr va vb)))
def UZ(va vb:LI)(rb:LL)(r:LI):Bool:=decide (qQ va (shr va vb) r∈Ya va vb rb)
theorem qGi:∀r∈Ya I vb rb,r.length=(shr I vb).length:=λr K=>by
 rw[Ya,(zQ _ _ eA).2]at K;obtain⟨q,-,rfl⟩:=cC.1 K;exact vZ
theorem qIJ I:SL (Ya I vb rb):=(zQ _ _ eA).1
theorem qIK I vb rb:(Ya I vb rb).length<=rb.length:=bM (yK _ _ eA) (by rw[lM];exact eA)
def kp(p:NB)(n:Nat):LN:=(List.range n).filter p
def kpR(p:NB)(rows:LL)(n:Nat):LL:=(kp p n).map λi=>rows.getD i []
def kpW(p:NB)(ws:LI)(n:Nat):LI:=(kp p n).map λi=>ws.getD i 0
theorem XA(h:p n=true):kp p (n+1)=kp p n++[n]:=by
 unfold kp;rw[dQ,cZ];simp[h]
theorem Qj(h:p n=false):kp p (n+1)=kp p n:=by
 unfold kp;rw[dQ,cZ];simp[h]
theorem qBU p n:(kp p n).length<=n:=bM (dH _ _) Ss
theorem qC7 rows(h:p n=true):kpR p rows (n+1)=kpR p rows n++[rows.getD n []]:=by unfold kpR;rw[XA h,mA];rfl
theorem qIL ws(h:p n=true):kpW p ws (n+1)=kpW p ws n++[ws.getD n 0]:=by unfold kpW;rw[XA h,mA];rfl
theorem qBV rows(h:p n=false):kpR p rows (n+1)=kpR p rows n:=by unfold kpR;rw[Qj h]
theorem qGj ws(h:p n=false):kpW p ws (n+1)=kpW p ws n:=by unfold kpW;rw[Qj h]
theorem qIM p rows n:(kpR p rows n).length<=n:=by unfold kpR;rw[lM];exact qBU p n
theorem qIN p ws n:(kpW p ws n).length<=n:=by unfold kpW;rw[lM];exact qBU p n
def vlA(R:LL)(q:LI)(i:Nat):Int:=(R.getD i []).getD q.length 0
def Zr(R:LL)(q:LI)(k j:Nat):Bool:=decide (j=0)||!decide (vlA R q (k+j-1)=vlA R q (k+j))
def VA(R:LL)(q:LI)(k n:Nat):LI:=(kp (Zr R q k) n).map λj=>vlA R q (k+j)
structure Run(R:LL)(q:LI)(k n:Nat):Prop where
 le:k+n<=R.length
 beg:∀j,j<n->(R.getD (k+j) []).take q.length=q
section
variable {R:LL} {q:LI} {k n:Nat}
theorem UE(hl:∀r∈R,q.length<r.length)(hi:i<R.length)(h:(R.getD i []).take q.length=q):q++[vlA R q i] <+:R.getD i []:=by
 have I:R.getD i []∈R:=by rw[gD,gE hi];exact gM hi
 have K:=hl _ I;have e:q++[vlA R q i]=(R.getD i []).take (q.length+1):=by rw[qy K,h];rfl
 rw[e];exact List.take_prefix _ _
theorem qEu(K:SL R)(hl:∀r∈R,q.length<r.length)(M:i<=j)(I:j<R.length)(O:(R.getD i []).take q.length=q)(V:(R.getD j []).take q.length=q):vlA R q i<=vlA R q j:=by
 by_cases e:i=j;subst e;exact Int.le_refl _;refine qFX (UE hl Oo O) (UE hl I V) ?_;rw[gD,gE (show i<R.length by omega),gD,gE I];exact List.pairwise_iff_getElem.1 K i j Oo I Oo
theorem qAo x:∀n,x∈VA R q k n↔∃j,j<n/\vlA R q (k+j)=x
 |0=>by unfold VA kp;simp
 |n+1=>by
  have M:=qAo x n;cases hb:Zr R q k n
  .have e:VA R q k (n+1)=VA R q k n:=by unfold VA;rw[Qj hb]
   rw[e,M];constructor;rintro⟨j,I,h⟩;exact⟨j,Oo,h⟩;rintro⟨j,I,h⟩;by_cases K:j=n;subst K;unfold Zr at hb;rw[Bool.or_eq_false_iff,aP,Bool.not_eq_false',dE]at hb;exact⟨j-1,Oo,by rw[show k+(j-1)=k+j-1 by omega,hb.2];exact h⟩;exact⟨j,Oo,h⟩
  have e:VA R q k (n+1)=VA R q k n++[vlA R q (k+n)]:=by unfold VA;rw[XA hb,mA];rfl
  rw[e,cF,M,cI];constructor
  .rintro (⟨j,I,h⟩|h);exact⟨j,Oo,h⟩;exact⟨n,Oo,h.symm⟩
  rintro⟨j,I,h⟩;by_cases K:j=n;subst K;exact .inr h.symm;exact .inl ⟨j,Oo,h⟩
theorem qEv(K:SL R)(hl:∀r∈R,q.length<r.length):∀n,Run R q k n->(VA R q k n).Pairwise (·< ·)
 |0,_=>by unfold VA kp;simp
 |n+1,h=>by
  have M:=qEv K hl n ⟨O1 h.le,λj O=>h.beg j Oo⟩;cases hb:Zr R q k n
  .have e:VA R q k (n+1)=VA R q k n:=by unfold VA;rw[Qj hb]
   rw[e];exact M
  have e:VA R q k (n+1)=VA R q k n++[vlA R q (k+n)]:=by unfold VA;rw[XA hb,mA];rfl
  rw[e,List.pairwise_append];refine⟨M,List.pairwise_singleton _ _,λa V b I=>?_⟩;rw[cI]at I;subst I;obtain⟨j,O,rfl⟩:=(qAo a n).1 V;have hle:=h.le;unfold Zr at hb;rw[Bool.or_eq_true,dE,Bool.not_eq_true',aP]at hb;rcases hb with hb|hb;omega;have h1:=qEu K hl (j:=k+n-1) Oo Oo (h.beg j Oo) (by have:=h.beg (n-1) Oo;rw[show k+(n-1)=k+n-1 by omega]at this;exact this);have h2:=qEu K hl (i:=k+n-1) Oo Oo (by have:=h.beg (n-1) Oo;rw[show k+(n-1)=k+n-1 by omega]at this;exact this) (h.beg n Oo);omega
theorem qJC(V:SL R)(hl:∀r∈R,q.length<r.length)(O:Sk R q k)(h:Run R q k n)(hE:k+n<R.length->(R.getD (k+n) []).take q.length≠q)x:x∈VA R q k n↔∃r∈R,q++[x] <+:r:=by
 rw[qAo];constructor;rintro⟨j,hj,rfl⟩;have hle:=h.le;refine⟨R.getD _ _,?_,UE hl Oo (h.beg j hj)⟩;rw[gD,gE Oo];exact gM _;rintro⟨r,hr,M⟩;obtain⟨i,hi,rfl⟩:=gO hr;have hg:R.getD i []=R[i]:=by rw[gD,gE hi];rfl
 rw[<-hg]at M;have⟨g1,g2,g3⟩:=qBk M;have K:(R.getD i []).take q.length=q:=by
  have⟨t,K⟩:=M;rw[<-K,dN,List.take_left]
 have a3:k<=i:=by
  rcases dL i k with I|I;have:=O.lo i I;rw[K,zj]at this;omega;exact I
 have a4:i<k+n:=by
  rcases dL i (k+n)with I|I;exact I;exfalso;have h2:=Xa q.length (qD4 V I hi);rw[K]at h2;have h3:=O.hi (k+n) Oo Oo;exact hE Oo (cmpL_eq Oo)
 exact⟨i-k,Oo,by rw[show k+(i-k)=i by omega];exact g3⟩
end
end Go.Proofs.YtnpgdnaeghilhaaGreat
