import Derived.Test.YtnpgdnaeghilhaaGreatEq02
import Derived.Deep.AppendLies
import Derived.Deep.Draws
import Derived.Deep.LoopGhost
import Derived.Deep.RegionLaw
import Derived.Lib.Walk
import Derived.Deep.CutRange
set_option maxHeartbeats 40000000
set_option maxRecDepth 1000000
namespace Go.Proofs.YtnpgdnaeghilhaaGreat
variable {x y v:Int}{p q r s:LI}{a b l ls:LL}{L g j i:Nat}{w w':World}
theorem zj:∀a,cmpL a a=0
 |[]=>rfl
 |x::a=>by simp[cmpL,zj a]
theorem cmpL_eq:∀{a b:LI},cmpL a b=0->a=b
 |[],[],_=>rfl
 |[],_::_,h=>by simp[cmpL]at h
 |_::_,[],h=>by simp[cmpL]at h
 |x::a,y::b,h=>by
  simp only[cmpL]at h;split at h;omega;split at h;omega;rw[cmpL_eq h,show x=y by omega]
theorem yU:∀a b,cmpL b a=- cmpL a b
 |[],[]=>rfl
 |[],_::_=>rfl
 |_::_,[]=>rfl
 |x::a,y::b=>by
  simp only[cmpL];by_cases I:x<y;rw[fF Oo,fE I,fE I];rfl;by_cases K:y<x;rw[fE K,fF I,fE K];rw[fF K,fF I,fF I,fF K];exact yU a b
theorem zi:∀{a b c:LI},cmpL a b<0->cmpL b c<0->cmpL a c<0
 |[],[],_,h,_=>by simp[cmpL]at h
 |[],_::_,[],_,h=>by simp[cmpL]at h
 |[],_::_,_::_,_,_=>by simp[cmpL]
 |_::_,[],_,h,_=>by simp[cmpL]at h
 |_::_,_::_,[],_,h=>by simp[cmpL]at h
 |x::a,y::b,z::c,h1,h2=>by
  simp only[cmpL]at h1 h2 |-;by_cases O:x<y
  .by_cases I:y<z;rw[fE Oo];decide;rw[fF I]at h2;by_cases K:z<y;rw[fE K]at h2;omega;rw[fE Oo];decide
  rw[fF O]at h1;by_cases I:y<x;rw[fE I]at h1;omega;rw[fF I]at h1;by_cases K:y<z;rw[fE Oo];decide;rw[fF K]at h2;by_cases M:z<y;rw[fE M]at h2;omega;rw[fF M]at h2;rw[fF Oo,fF Oo];exact zi h1 h2
def SL(l:LL):Prop:=l.Pairwise λa b=>cmpL a b<0
theorem SL.uniq:∀{a b:LL},SL a->SL b->(∀x,x∈a↔x∈b)->a=b
 |[],[],_,_,_=>rfl
 |[],y::b,_,_,h=>by have:=(h y).2 (cY ..);cases this
 |x::a,[],_,_,h=>by have:=(h x).1 (cY ..);cases this
 |x::a,y::b,ha,hb,h=>by
  unfold SL at ha hb;rw[List.pairwise_cons]at ha hb;have K:x=y:=by
   rcases cH.1 ((h x).1 (cY ..))with e|e;exact e;rcases cH.1 ((h y).2 (cY ..))with M|M;exact M.symm;have:=zi (hb.1 x e) (ha.1 y M);rw[zj]at this;omega
  subst K;rw[SL.uniq (a:=a) (b:=b) ha.2 hb.2 λz=>?_];constructor
  .intro I;rcases cH.1 ((h z).1 (mC _ I))with e|e;subst e;have:=ha.1 _ I;rw[zj]at this;omega;exact e
  intro I;rcases cH.1 ((h z).2 (mC _ I))with e|e;subst e;have:=hb.1 _ I;rw[zj]at this;omega;exact e
def mrgX(x:LI)(f:LL->LL)(c:LL):LL->LL
 |[]=>c
 |y::b=>if cmpL x y<0 then x::f (y::b) else if 0<cmpL x y then y::mrgX x f c b else x::f b
def mrg:LL->LL->LL
 |[]=>λb=>b
 |x::a=>mrgX x (mrg a) (x::a)
theorem yJ b:mrg [] b=b:=rfl
theorem yW a:mrg a []=a:=by cases a <;> rfl
theorem Ve{x y}(h:cmpL x y<0):mrg (x::a) (y::b)=x::mrg a (y::b):=fE h
theorem Vf{x y}(h:0<cmpL x y):mrg (x::a) (y::b)=y::mrg (x::a) b:=(fF Oo).trans (fE h)
theorem Vg{x y}(I:¬cmpL x y<0)(K:¬0<cmpL x y):mrg (x::a) (y::b)=x::mrg a b:=(fF I).trans (fF K)
theorem uy(z:LI):∀n a b,a.length+b.length<=n->(z∈mrg a b↔z∈a\/z∈b)
 |n,[],b,_=>by rw[yJ];simp
 |n,x::a,[],_=>by rw[yW];simp
 |n+1,x::a,y::b,h=>by
  simp only[cQ]at h;by_cases I:cmpL x y<0;rw[Ve I,cH,uy z n a (y::b) (by simp only[cQ];omega),cH,cH,or_assoc];by_cases K:0<cmpL x y
  .rw[Vf K,cH,uy z n (x::a) b (by simp only[cQ];omega),cH,cH];constructor
   .rintro (h|(h|h)|h);exact .inr (.inl h);exact .inl (.inl h);exact .inl (.inr h);exact .inr (.inr h)
   rintro ((h|h)|(h|h));exact .inr (.inl (.inl h));exact .inr (.inl (.inr h));exact .inl h;exact .inr (.inr h)
  have e:x=y:=cmpL_eq Oo;subst e;rw[Vg I K,cH,uy z n a b Oo,cH,cH];constructor
  .rintro (h|h|h);exact .inl (.inl h);exact .inl (.inr h);exact .inr (.inr h)
  rintro ((h|h)|(h|h));exact .inl h;exact .inr (.inl h);exact .inl h;exact .inr (.inr h)
 |0,x::a,y::b,h=>by simp only[cQ]at h;omega
theorem SL.mrg:∀n a b,a.length+b.length<=n->SL a->SL b->SL (mrg a b)
 |n,[],b,_,_,hb=>by rw[yJ];exact hb
 |n,x::a,[],_,ha,_=>by rw[yW];exact ha
 |0,x::a,y::b,h,_,_=>by simp only[cQ]at h;omega
 |n+1,x::a,y::b,h,ha,hb=>by
  simp only[cQ]at h;have I:=List.pairwise_cons.1 ha;have hb':=List.pairwise_cons.1 hb;by_cases M:cmpL x y<0
  .rw[Ve M];refine List.pairwise_cons.2 ⟨λz K=>?_,SL.mrg n a (y::b) (by simp only[cQ];omega) I.2 hb⟩;rcases (uy z _ a (y::b) eA).1 K with h|h;exact I.1 z h;rcases cH.1 h with rfl|h;exact M;exact zi M (hb'.1 z h)
  by_cases O:0<cmpL x y
  .have V:cmpL y x<0:=by rw[yU];omega
   rw[Vf O];refine List.pairwise_cons.2 ⟨λz K=>?_,SL.mrg n (x::a) b (by simp only[cQ];omega) ha hb'.2⟩;rcases (uy z _ (x::a) b eA).1 K with h|h
   .rcases cH.1 h with rfl|h;exact V;exact zi V (I.1 z h)
   exact hb'.1 z h
  have e:x=y:=cmpL_eq Oo;subst e;rw[Vg M O];refine List.pairwise_cons.2 ⟨λz K=>?_,SL.mrg n a b Oo I.2 hb'.2⟩;rcases (uy z _ a b eA).1 K with h|h;exact I.1 z h;exact hb'.1 z h
def srt:LL->LL:=WellFounded.fix (measure List.length).wf λl f=>if h:l.length<2 then l else mrg (f (l.take (l.length / 2)) (by show List.length _<List.length _;simp only[List.length_take];omega)) (f (l.drop (l.length / 2)) (by show List.length _<List.length _;simp only[List.length_drop];omega))
theorem jN(h:l.length<2):srt l=l:=by rw[srt,WellFounded.fix_eq,dif_pos h]
theorem Ye(h:¬l.length<2):srt l=mrg (srt (l.take (l.length / 2))) (srt (l.drop (l.length / 2))):=by rw[srt,WellFounded.fix_eq,dif_neg h]
theorem zQ:∀n l,l.length<=n->SL (srt l)/\∀z,z∈srt l↔z∈l
 |n,l,h=>by
  by_cases I:l.length<2
  .rw[jN I];refine⟨?_,λz=>Iff.rfl⟩;match l,I with
   |[],_=>exact List.Pairwise.nil
   |[x],_=>exact List.pairwise_singleton _ _
  rw[Ye I];match n with
  |0=>omega
  |n+1=>
   have⟨a1,a2⟩:=zQ n (l.take (l.length / 2)) (by rw[bZ];omega);have⟨K,b2⟩:=zQ n (l.drop (l.length / 2)) (by rw[dP];omega);refine⟨SL.mrg _ _ _ eA a1 K,λz=>?_⟩;rw[uy z _ _ _ eA,a2,b2,<-cF,tD]
theorem vN:∀n a b,a.length+b.length<=n->(mrg a b).length<=a.length+b.length
 |n,[],b,_=>by rw[yJ];simp
 |n,x::a,[],_=>by rw[yW];simp
 |0,x::a,y::b,h=>by simp only[cQ]at h;omega
 |n+1,x::a,y::b,h=>by
  simp only[cQ]at h;by_cases I:cmpL x y<0;have:=vN n a (y::b) (by simp only[cQ];omega);rw[Ve I];simp only[cQ]at this |-;omega;by_cases K:0<cmpL x y;have:=vN n (x::a) b (by simp only[cQ];omega);rw[Vf K];simp only[cQ]at this |-;omega;have:=vN n a b Oo;rw[Vg I K];simp only[cQ];omega
theorem yK:∀n l,l.length<=n->(srt l).length<=l.length
 |n,l,h=>by
  by_cases I:l.length<2;rw[jN I];exact eA;rw[Ye I];match n with
  |0=>omega
  |n+1=>
   have a1:=yK n (l.take (l.length / 2)) (by rw[bZ];omega);have K:=yK n (l.drop (l.length / 2)) (by rw[dP];omega);have c1:=vN _ (srt (l.take (l.length / 2))) (srt (l.drop (l.length / 2))) eA;rw[bZ]at a1;rw[dP]at K;omega
def cpt:LL->LL
 |[]=>[]
 |[x]=>[x]
 |x::y::l=>if x=y then cpt (y::l) else x::cpt (y::l)
theorem Xb(z:LI):∀l,z∈cpt l↔z∈l
 |[]=>Iff.rfl
 |[x]=>Iff.rfl
 |x::y::l=>by
  rw[cpt];split
  .rename_i e;subst e;rw[Xb z (x::l)];simp
  rw[cH,Xb z (y::l),cH (a:=z) (b:=x)]
theorem SL.cpt:∀l,(l.Pairwise λa b=>¬cmpL b a<0)->SL (cpt l)
 |[],_=>List.Pairwise.nil
 |[x],_=>List.pairwise_singleton _ _
 |x::y::l,h=>by
  have I:=List.pairwise_cons.1 h;rw[Go.Proofs.YtnpgdnaeghilhaaGreat.cpt];split;exact SL.cpt (y::l) I.2;rename_i ne;refine List.pairwise_cons.2 ⟨λz M=>?_,SL.cpt (y::l) I.2⟩;rw[Xb]at M;have V:=I.1 z M;have h2:=I.1 y (cY ..);have hy:¬cmpL z y<0:=by
   rcases cH.1 M with rfl|O;rw[zj];omega;exact(List.pairwise_cons.1 I.2).1 z O
  have K:cmpL x y<0:=by
   have e1:=yU x y;rcases Int.lt_trichotomy (cmpL x y) 0 with h|h|h;exact h;exact absurd (cmpL_eq h) ne;omega
  have e2:=yU y z;rcases Int.lt_trichotomy (cmpL y z) 0 with h|h|h;exact zi K h;rw[<-cmpL_eq h];exact K;omega
theorem qIT{I}(hs:I.Pairwise λa b=>¬cmpL b a<0)(K:∀z,z∈I↔z∈l):cpt I=srt l:=by
 have⟨a,b⟩:=zQ _ l eA;exact SL.uniq (SL.cpt I hs) a λz=>by rw[Xb,b,K]
theorem qBk(h:p++[y] <+:s):p.length<s.length/\(∀i,i<p.length->s.getD i 0=p.getD i 0)/\s.getD p.length 0=y:=by
 obtain⟨t,rfl⟩:=h;refine⟨Ss,λi hi=>?_,?_⟩;rw[gD,gD,dN,aL hi];rw[gD,dN,bQ eA,Nat.sub_self];rfl
theorem qFX(K:p++[y] <+:s)(M:p++[x] <+:r)(h:cmpL s r<0):y<=x:=by
 have⟨a1,a2,O⟩:=qBk K;have⟨V,b2,b3⟩:=qBk M;rcases Int.lt_or_le x y with I|I;have:=Vm a1 V (λi hi=>by rw[a2 i hi,b2 i hi]) (by rw[O,b3];exact I);omega;exact I
theorem qBl{l:LI}{a:Int}:p <+:l++[a]↔p=l++[a]\/p <+:l:=by
 rw[List.prefix_concat_iff]
theorem qy(h:i<r.length):r.take (i+1)=r.take i++[r.getD i 0]:=by
 rw[tA,gE h,gD,gE h];rfl
theorem ZG(h:p++[x]=q++[y]):p=q/\x=y:=by
 have:=List.append_inj' h rfl;exact⟨this.1,by simpa using this.2⟩
structure TM(rs:LL)(D:LI->Prop)(N:LI->LI):Prop where
 dom:∀p,D p↔p=[]\/∃r∈rs,p <+:r
 mem:∀p,D p->∀x,x∈N p↔D (p++[x])
 asc:∀p,D p->(N p).Pairwise (·< ·)
theorem TM.none:TM [] (λp=>p=[]) (λ_=>[]):=
 ⟨λp=>Ss,λp _ x=>Ss,λp _=>List.Pairwise.nil⟩
theorem TM.pre{rs D N}(h:TM rs D N)(hq:D q)(K:p <+:q):D p:=by
 rw[h.dom]at hq |-;rcases hq with rfl|⟨r,M,I⟩;exact .inl (List.prefix_nil.1 K);exact .inr ⟨r,M,K.trans I⟩
theorem TM.root{rs D N}(h:TM rs D N):D []:=(h.dom []).2 (.inl rfl)
section
variable {rs:LL} {r:LI} {i:Nat} {D:LI->Prop} {N:LI->LI}
theorem TM.begin(h:TM rs D N):TM (rs++[r.take 0]) D N:=
 ⟨λp=>by
  rw[h.dom];constructor
  .rintro (I|⟨s,hs,I⟩);exact .inl I;exact .inr ⟨s,dW _ hs,I⟩
  rintro (I|⟨s,hs,I⟩);exact .inl I;rcases cF.1 hs with K|K;exact .inr ⟨s,K,I⟩;simp at K;subst K;exact .inl (List.prefix_nil.1 I),h.mem,h.asc⟩
theorem TM.here(h:TM (rs++[r.take i]) D N):D (r.take i):=(h.dom _).2 (.inr ⟨r.take i,Ss,List.prefix_refl _⟩)
theorem TM.le(h:TM (rs++[r.take i]) D N)(hi:i<r.length)(hs:∀s∈rs,cmpL s r<0):∀y∈N (r.take i),y<=r.getD i 0:=λy M=>by
 rw[h.mem _ h.here,h.dom]at M;rcases M with I|⟨s,hs',I⟩;simp at I;rcases cF.1 hs' with K|K;refine qFX I ?_ (hs s K);rw[<-qy hi];exact List.take_prefix _ _;simp at K;subst K;have:=I.length_le;simp at this;omega
theorem qBm(h:TM (rs++[r.take i]) D N)(hi:i<r.length)(p:LI):(p=[]\/∃s∈rs++[r.take (i+1)],p <+:s)↔D p\/p=r.take i++[r.getD i 0]:=by
 rw[h.dom];constructor
 .rintro (I|⟨s,hs,I⟩);exact .inl (.inl I);rcases cF.1 hs with K|K;exact .inl (.inr ⟨s,dW _ K,I⟩);simp only[cI]at K;subst K;rw[qy hi,qBl]at I;rcases I with I|I;exact .inr I;exact .inl (.inr ⟨_,dX _ (cI.2 rfl),I⟩)
 rintro ((I|⟨s,hs,I⟩)|I);exact .inl I
 .rcases cF.1 hs with K|K;exact .inr ⟨s,dW _ K,I⟩;simp only[cI]at K;subst K;refine .inr ⟨r.take (i+1),dX _ (cI.2 rfl),?_⟩;rw[qy hi,qBl];exact .inr I
 refine .inr ⟨r.take (i+1),dX _ (cI.2 rfl),?_⟩;rw[qy hi,I];exact List.prefix_refl _
theorem TM.hit(h:TM (rs++[r.take i]) D N)(hi:i<r.length)(K:r.getD i 0∈N (r.take i)):TM (rs++[r.take (i+1)]) D N:=
 ⟨λp=>by
  rw[qBm h hi];constructor;exact .inl;rintro (I|I);exact I;rw[I];exact(h.mem _ h.here _).1 K,h.mem,h.asc⟩
def qGw(D:LI->Prop)(q:LI):LI->Prop:=λp=>D p\/p=q
def kX(N:LI->LI)(p:LI)(x:Int):LI->LI:=λq=>if q=p then N p++[x] else if q=p++[x] then [] else N q
theorem Xc(p:LI)x:p++[x]≠p:=λe=>by have:=congrArg List.length e;simp at this
theorem TM.miss(h:TM (rs++[r.take i]) D N)(hi:i<r.length)(hs:∀s∈rs,cmpL s r<0)(hx:r.getD i 0∉N (r.take i)):
 TM (rs++[r.take (i+1)]) (qGw D (r.take i++[r.getD i 0])) (kX N (r.take i) (r.getD i 0)):=by
 have hle:=h.le hi hs;have V:=h.here;have O:=qBm h hi;generalize r.take (i+1)=r1,r.take i=p0,r.getD i 0=x at *;refine⟨λp=>(O p).symm,λq hq y=>?_,λq hq=>?_⟩
 .unfold kX qGw;by_cases M:q=p0
  .subst M;rw[fE rfl,cF,cI,h.mem _ V];constructor
   .rintro (I|I);exact .inl I;exact .inr (by rw[I])
   rintro (I|I);exact .inl I;exact .inr (ZG I).2
  rw[fF M];by_cases K:q=p0++[x]
  .subst K;rw[fE rfl];constructor;intro I;cases I
   rintro (I|I);exact absurd (h.pre I (List.prefix_append _ _)) (λhd=>hx ((h.mem _ V _).2 hd));exact absurd I (Xc _ _)
  rw[fF K,h.mem _ (hq.resolve_right K)];constructor;exact .inl;rintro (I|I);exact I;exact absurd (ZG I).1 M
 unfold kX;by_cases M:q=p0
 .subst M;rw[fE rfl,List.pairwise_append];refine⟨h.asc _ V,List.pairwise_singleton _ _,λy hy z hz=>?_⟩;rw[cI]at hz;subst hz;have:=hle y hy;rcases Int.lt_or_eq_of_le this with I|I;exact I;subst I;exact absurd hy hx
 rw[fF M];by_cases K:q=p0++[x];rw[fE K];exact List.Pairwise.nil;rw[fF K];exact h.asc _ (hq.resolve_right K)
theorem TM.done(h:TM (rs++[r.take r.length]) D N):TM (rs++[r]) D N:=by rw[tL]at h;exact h
end
theorem qIa{l:LI}(K:l.Pairwise (·< ·))(I:x∈l)(hle:∀y∈l,y<=x):0<l.length/\l.getD (l.length-1) 0=x:=by
 refine⟨List.length_pos_of_mem I,?_⟩;have⟨j,O,e⟩:=gO I;have hl:l.getD (l.length-1) 0=l[l.length-1]' Oo:=by rw[gD,gE Oo];rfl
 have h1:=hle _ (gM (h:=(by omega:l.length-1<l.length)));rw[hl];by_cases V:j=l.length-1;subst V;exact e;have:=List.pairwise_iff_getElem.1 K j (l.length-1) O Oo Oo;omega
theorem qGx{l:LI}(I:x∉l)(K:0<l.length):l.getD (l.length-1) 0≠x:=λe=>I (by
 rw[<-e,gD,gE Oo];exact gM _)
theorem TM.row{rs D N}(h:TM rs D N)(hl:∀r∈rs,r.length=L)(M:rs≠[])(hq:q.length=L):D q↔q∈rs:=by
 rw[h.dom];constructor
 .rintro (I|⟨r,K,I⟩)
  .subst I;cases rs with
   |nil=>exact absurd rfl M
   |cons a rs=>
    have:=hl a (cY ..);rw[List.length_nil]at hq;have:a=[]:=dV.1 Oo;rw[this];exact cY ..
  have:=I.eq_of_length (by rw[hq,hl r K]);rw[this];exact K
 intro I;exact .inr ⟨q,I,List.prefix_refl _⟩
theorem TM.more{rs D N}(h:TM rs D N)(hl:∀r∈rs,r.length=L)(O:rs≠[])(hq:q.length<L)(hd:D q):0<(N q).length:=by
 have key:∃r∈rs,q <+:r:=by
  rcases (h.dom q).1 hd with I|I
  .subst I;cases rs with
   |nil=>exact absurd rfl O
   |cons a rs=>exact⟨a,cY ..,List.nil_prefix⟩
  exact I
 obtain⟨r,K,t,rfl⟩:=key;have M:=hl _ K;rw[lA]at M;cases t with
 |nil=>simp at M;omega
 |cons x t=>exact List.length_pos_of_mem ((h.mem q hd x).2 ((h.dom _).2 (.inr ⟨_,K,by rw[show q++x::t=(q++[x])++t by simp];exact List.prefix_append _ _⟩)))
structure Sd where
 H:NB
 rs:LL
 N:LI->LI
def Sd.D(s:Sd)(p:LI):Prop:=p=[]\/∃r∈s.rs,p <+:r
structure Sd.Ok(s:Sd):Prop where
 tm:TM s.rs s.D s.N
def prt(H:NB)(p:LI):LI:=((List.range p.length).filter H).map λi=>p.getD i 0
theorem kO H p v:prt H (p++[v])=prt H p++(if H p.length then [v] else []):=by
 unfold prt;rw[lA,lS,dQ,cZ,mA];congr 1;refine cV λi hi=>?_;have I:=cJ.1 ((cK.1 hi).1);rw[gD,aL I,<-gD];by_cases h:H p.length;rw[fE h,List.filter_cons,fE h];simp[List.getD_eq_getElem?_getD];rw[fF h,List.filter_cons,fF h];rfl
def Hld(sds:List Sd)(p:LI):Prop:=∀s∈sds,s.D (prt s.H p)
def qGB(sds:List Sd)(p:LI)(v:Int):Bool:=sds.all λs=>!s.H p.length||decide (v∈s.N (prt s.H p))
theorem kP I p v:qGB I p v=true↔∀s∈I,s.H p.length=true->v∈s.N (prt s.H p):=by
 unfold qGB;rw[aT];refine⟨λh s hs K=>?_,λh s hs=>?_⟩;have:=h s hs;rw[K]at this;simpa using this;cases K:s.H p.length
 rfl;simpa using h s hs K
theorem YM:∀{a b:LI},a.Pairwise (·< ·)->b.Pairwise (·< ·)->(∀v,v∈a↔v∈b)->a=b
 |[],[],_,_,_=>rfl
 |[],y::b,_,_,h=>by have:=(h y).2 cY;cases this
 |x::a,[],_,_,h=>by have:=(h x).1 cY;cases this
 |x::a,y::b,ha,hb,h=>by
  rw[List.pairwise_cons]at ha hb;have M:x=y:=by
   have I:=(h x).1 cY;have K:=(h y).2 cY;rw[cH]at I K;rcases I with I|I;exact I;rcases K with K|K;exact K.symm;have:=hb.1 x I;have:=ha.1 y K;omega
  subst M;rw[YM ha.2 hb.2 λv=>?_];have:=h v;rw[cH,cH]at this;constructor
  .intro hv;rcases this.1 (.inr hv)with rfl|I;have:=ha.1 v hv;omega;exact I
  intro hv;rcases this.2 (.inr hv)with rfl|I;have:=hb.1 v hv;omega;exact I
def uH(sds:List Sd)(g:Sd)(p:LI):LI:=(g.N (prt g.H p)).filter λv=>qGB sds p v
theorem qDi{I}(K:∀s∈I,s.Ok){g f}(M:g∈I)(O:f∈I)(V:Hld I p)(h1:g.H p.length=true)(h2:f.H p.length=true):uH I g p=uH I f p:=by
 refine YM ((((K g M).tm.asc _ (V g M))).filter _) ((((K f O).tm.asc _ (V f O))).filter _) λv=>?_;unfold uH;rw[cK,cK];constructor;rintro⟨-,h⟩;exact⟨(kP I p v).1 h f O h2,h⟩;rintro⟨-,h⟩;exact⟨(kP I p v).1 h g M h1,h⟩
def xy(sds:List Sd)(p:LI):LI:=
 match sds.find? λs=>s.H p.length with
 |some f=>uH sds f p
 |none=>[]
theorem XU{I}(K:∀s∈I,s.Ok){g}(M:g∈I)(V:Hld I p)(O:g.H p.length=true):xy I p=uH I g p:=by
 unfold xy;cases hf:I.find? (λs=>s.H p.length)with
 |none=>
  rw[List.find?_eq_none]at hf;exact absurd O (hf g M)
 |some f=>
  exact qDi K (List.mem_of_find?_eq_some hf) M V (by have:=List.find?_some hf;exact this) O
theorem qGC{I}(K:∀s∈I,s.Ok)(M:Hld I p):(xy I p).Pairwise (·< ·):=by
 unfold xy;cases hf:I.find? (λs=>s.H p.length)with
 |none=>exact List.Pairwise.nil
 |some f=>exact((K f (List.mem_of_find?_eq_some hf)).tm.asc _ (M f (List.mem_of_find?_eq_some hf))).filter _
theorem Hld.snoc{I}(K:∀s∈I,s.Ok)(M:Hld I p)(hv:v∈xy I p):Hld I (p++[v]):=λs hs=>by
 rw[kO];cases hH:s.H p.length
 rw[fF Dd,dU];exact M s hs;rw[fE rfl];rw[XU K hs M hH]at hv;unfold uH at hv;exact((K s hs).tm.mem _ (M s hs) v).1 ((cK.1 hv).1)
theorem YN{I}(K:∀s∈I,s.Ok)(M:Hld I p):∀j,∀q∈yo (xy I) p j,Hld I q
 |0,q,h=>by simp[yo]at h;rw[h];exact M
 |j+1,q,h=>by
  simp only[yo,List.mem_flatMap,cC]at h;obtain⟨r,O,v,hv,rfl⟩:=h;exact(YN K M j r O).snoc K hv
theorem kJ(x y:LI)(l:LL):cpt (x::y::l)=if x=y then cpt (y::l) else x::cpt (y::l):=by rw[cpt]
theorem Yz(x:LI):cpt [x]=[x]:=by rw[cpt]
theorem Qp:∀(l:LL) (y z:LI),cpt (l++[y,z])=if y=z then cpt (l++[y]) else cpt (l++[y])++[z]
 |[],y,z=>by
  show cpt [y,z]=if y=z then cpt [y] else cpt [y]++[z]
  rw[kJ,Yz,Yz];by_cases h:y=z;rw[fE h,fE h,h];rw[fF h,fF h];rfl
 |[x],y,z=>by
  have M:cpt [y,z]=if y=z then cpt [y] else cpt [y]++[z]:=Qp [] y z
  show cpt (x::y::[z])=if y=z then cpt [x,y] else cpt [x,y]++[z]
  rw[kJ x y [z],M,kJ x y []];by_cases I:x=y;rw[fE I,fE I];rw[fF I,fF I];by_cases K:y=z;rw[fE K,fE K];rw[fF K,fF K];rfl
 |x::a::l,y,z=>by
  have M:cpt (a::(l++[y,z]))=if y=z then cpt (a::(l++[y])) else cpt (a::(l++[y]))++[z]:=Qp (a::l) y z
  show cpt (x::a::(l++[y,z]))=if y=z then cpt (x::a::(l++[y])) else cpt (x::a::(l++[y]))++[z]
  rw[kJ,M,kJ];by_cases I:x=a;rw[fE I,fE I];rw[fF I,fF I];by_cases K:y=z;rw[fE K,fE K];rw[fF K,fF K];rfl
theorem X9(I:j+1<ls.length):ls.take (j+2)=ls.take j++[ls.getD j [],ls.getD (j+1) []]/\ls.take (j+1)=ls.take j++[ls.getD j []]:=by
 have M:ls.getD j []=ls[j]:=by rw[gD,gE Oo];rfl
 have O:ls.getD (j+1) []=ls[j+1]:=by rw[gD,gE I];rfl
 rw[M,O];have K:ls.take (j+1)=ls.take j++[ls[j]]:=(List.take_append_getElem Oo).symm;have V:ls.take (j+2)=ls.take (j+1)++[ls[j+1]]:=(List.take_append_getElem I).symm;exact⟨by rw[V,K,dN];rfl,K⟩
theorem qCi(I:j+1<ls.length)(h:ls.getD j []=ls.getD (j+1) []):cpt (ls.take (j+2))=cpt (ls.take (j+1)):=by
 have⟨a,b⟩:=X9 I;rw[a,b,Qp,fE h]
theorem K9(I:j+1<ls.length)(h:¬ls.getD j []=ls.getD (j+1) []):cpt (ls.take (j+2))=cpt (ls.take (j+1))++[ls.getD (j+1) []]:=by
 have⟨a,b⟩:=X9 I;rw[a,b,Qp,fF h]
theorem Vu:∀j,j<ls.length->(∀i,i<j->¬ls.getD i []=ls.getD (i+1) [])->cpt (ls.take (j+1))=ls.take (j+1)
 |0,h,_=>by
  match ls,h with
  |x::l,_=>rfl
 |j+1,h,hne=>by
  rw[K9 h (hne j Oo),Vu j Oo (λi hi=>hne i Oo)];have⟨a,b⟩:=X9 h;rw[a,b,dN];rfl
open Go.Proofs.Tryz Go.RowKit
def Two(w:World)(g:Nat)(x y:Int):Prop:=w.cell? (az g 0)=some (ai x)/\w.cell? (az g 1)=some (ai y)/\w.frozen? (az g 0)=false/\w.frozen? (az g 1)=false
theorem Two.below(h:Two w g x y)(I:g<w.1.size)(hb:Bl w w'):Two w' g x y:=
 ⟨(hb.cell I).trans h.1,(hb.cell I).trans h.2.1,(dA (hb.block g I)).trans h.2.2.1,(dA (hb.block g I)).trans h.2.2.2⟩
theorem Two.set{a b}(h:Two w g a b)x y:Two ((w.setCell (az g 0) (ai x)).setCell (az g 1) (ai y)) g x y:=by
 have n1:∀v,aC (sC w g 0 v) g 1 (ai b):=λv=>(eE Ss).trans h.2.1;refine⟨(eE Ss).trans (eJ h.1),eJ (n1 _),?_,?_⟩;rw[fS,fS];exact h.2.2.1;rw[fS,fS];exact h.2.2.2
theorem Two.other{g' a b}(h:Two w g a b)(I:g≠g')x y:Two ((w.setCell (az g' 0) x).setCell (az g' 1) y) g a b:=by
 have ne:∀i j:Nat,((az g i):Addr)≠(az g' j):=λi j e=>by simp only[Addr.mk.injEq]at e;exact I e.1
 refine⟨?_,?_,?_,?_⟩;rw[eE (by first|exact(ne _ _).symm),eE (by first|exact(ne _ _).symm)];exact h.1;rw[eE (by first|exact(ne _ _).symm),eE (by first|exact(ne _ _).symm)];exact h.2.1;rw[fS,fS];exact h.2.2.1;rw[fS,fS];exact h.2.2.2
theorem qCR w v{l}(h:IR w v l)(hl:l.length<=1000)(s:Nat->Int×Int)(h0:s 0=(0,1))
 (hs:∀k w,k<l.length->aG 177 #[.agg #[ai (s k).1,ai (s k).2],.agg #[ai (l.getD k (0,0)).1,ai (l.getD k (0,0)).2]] w (.agg #[ai (s (k+1)).1,ai (s (k+1)).2])):
 aG 149 #[v] w (.agg #[ai (s l.length).1,ai (s l.length).2]):=by
 obtain⟨a,cap,rfl,hc⟩:=h;have⟨n,hn⟩:=Ex l.length;rw[<-hn]at hc hl hs |-;have H0:=ay h0;change Hh _ at hc hs;clear hn h0;go_enter func149,ntmps149;go_wp2;have a5:Bl w ((aJ w #[ai 0,ai 0] 36).alloc (.cells #[ai 0,ai 1] 36)):=(aK).alloc Ss _;have t1:Two ((aJ w #[ai 0,ai 0] 36).alloc (.cells #[ai 0,ai 1] 36)) w.1.size 0 0:=
  ⟨by rw[dR _ _ _ Ss,eH rfl];rfl,by rw[dR _ _ _ Ss,eH rfl];rfl,by rw[World.frozen?_alloc_past _ _ _ Ss,eM rfl],by rw[World.frozen?_alloc_past _ _ _ Ss,eM rfl]⟩
 have t2:Two ((aJ w #[ai 0,ai 0] 36).alloc (.cells #[ai 0,ai 1] 36)) (w.1.size+1) 0 1:=
  ⟨by rw[eH Ss];rfl,by rw[eH Ss];rfl,eM Ss,eM Ss⟩
 change Hh _ at t1 t2 a5;go_loopw [9] (λt wr=>∃k:Nat,k<=n/\t=ai k/\w.1.size+1<wr.1.size/\Hh (Bl w wr/\Two wr w.1.size 0 0/\Two wr (w.1.size+1) (s k).1 (s k).2)) (λt _=>n-(intOf t).toNat);exact⟨0,eC,rfl,Ss,ay ⟨a5,t1,H0.o▸t2⟩⟩;obtain⟨k,hk,rfl,hsz,hH⟩:=hrel;by_cases a7:k<n
 .have i1:=aV a7;rcases hc.o with h0|⟨b,o,rfl,O⟩;omega;have⟨M,I,K⟩:=hH.o;have⟨d1,d2⟩:=O k a7;have c1:=(M.cell (bL w _ d1)).trans d1;have c2:=(M.cell (bL w _ d2)).trans d2;have HK:Hh (∀w,_):=λw=>hs k w a7;have a8:∀ob,Bl wr (wr.alloc ob):=λob=>aK;have c3:=K.1;have c4:=K.2.1;have HH:=ay (And.intro M (And.intro I K));change Hh _ at a8;generalize (l.getD k (0,0)).1=x,(l.getD k (0,0)).2=y at *;have⟨x2,a3⟩:=Ex ((s (k+1)).1);have⟨y2,a4⟩:=Ex ((s (k+1)).2);rw[<-a3,<-a4]at HK;have HX:=ay a3;have HY:=ay a4;go_wp2_with (go_at_call 177;apply (HK.o _).mn;intro w2 a9;have V:=bt (a8 _) a9;have q2:=HH.2.2.below Oo V;have q4:=V.size;have e1:=q2.1;have e2:=q2.2.1;have e3:=q2.2.2.1;have e4:=q2.2.2.2;have HQ:=ay (And.intro (HH.2.1.below Oo V) (And.intro q2 (bt HH.1 V)));skip);go_roundw;exact⟨k+1,Oo,Gg,by simp[World.setCell];omega,ay ⟨(HQ.2.2.setCell (by show w.1.size<=w.1.size+1;omega) _).setCell (by show w.1.size<=w.1.size+1;omega) _,HQ.1.other Oo _ _,by rw[<-HX.o,<-HY.o];exact HQ.2.1.set _ _⟩⟩;exact Im
 obtain rfl:k=n:=Oo;have i1:=aY k;have⟨M,I,K⟩:=hH.o;have c1:=I.1;have c2:=I.2.1;have c3:=I.2.2.1;have c4:=I.2.2.2;have e1:=K.1;have e2:=K.2.1;have⟨x,hx⟩:=Ex ((s k).1);have⟨y,hy⟩:=Ex ((s k).2);rw[<-hx]at e1;rw[<-hy]at e2;have HX:=ay hx;have HY:=ay hy;have HQ:=ay (And.intro M (I.set x y));clear hH I K hx hy M;go_wp2;have r1:=HQ.2.1;have r2:=HQ.2.2.1;refine aU (v:=.agg #[ai x,ai y]) (by simp[results,results149,go_sem,r1,r2]) rfl ⟨by rw[HX.o,HY.o],(HQ.1.setCell eA _).setCell eA _⟩
theorem qCS w v{l}(h:IR w v l)(hl:l.length<=1000)(s:Nat->Int×Int)(h0:s 0=(0,1))
 (hs:∀k w,k<l.length->aG 139 #[.agg #[ai (s k).1,ai (s k).2],.agg #[ai (l.getD k (0,0)).1,ai (l.getD k (0,0)).2]] w (.agg #[ai (s (k+1)).1,ai (s (k+1)).2])):
 aG 98 #[v] w (.agg #[ai (s l.length).1,ai (s l.length).2]):=by
 obtain⟨a,cap,rfl,hc⟩:=h;have⟨n,hn⟩:=Ex l.length;rw[<-hn]at hc hl hs |-;have H0:=ay h0;change Hh _ at hc hs;clear hn h0;go_enter func98,ntmps98;go_wp2;have a5:Bl w ((aJ w #[ai 0,ai 0] 36).alloc (.cells #[ai 0,ai 1] 36)):=(aK).alloc Ss _;have t1:Two ((aJ w #[ai 0,ai 0] 36).alloc (.cells #[ai 0,ai 1] 36)) w.1.size 0 0:=
  ⟨by rw[dR _ _ _ Ss,eH rfl];rfl,by rw[dR _ _ _ Ss,eH rfl];rfl,by rw[World.frozen?_alloc_past _ _ _ Ss,eM rfl],by rw[World.frozen?_alloc_past _ _ _ Ss,eM rfl]⟩
 have t2:Two ((aJ w #[ai 0,ai 0] 36).alloc (.cells #[ai 0,ai 1] 36)) (w.1.size+1) 0 1:=
  ⟨by rw[eH Ss];rfl,by rw[eH Ss];rfl,eM Ss,eM Ss⟩
 change Hh _ at t1 t2 a5;go_loopw [9] (λt wr=>∃k:Nat,k<=n/\t=ai k/\w.1.size+1<wr.1.size/\Hh (Bl w wr/\Two wr w.1.size 0 0/\Two wr (w.1.size+1) (s k).1 (s k).2)) (λt _=>n-(intOf t).toNat);exact⟨0,eC,rfl,Ss,ay ⟨a5,t1,H0.o▸t2⟩⟩;obtain⟨k,hk,rfl,hsz,hH⟩:=hrel;by_cases a7:k<n
 .have i1:=aV a7;rcases hc.o with h0|⟨b,o,rfl,O⟩;omega;have⟨M,I,K⟩:=hH.o;have⟨d1,d2⟩:=O k a7;have c1:=(M.cell (bL w _ d1)).trans d1;have c2:=(M.cell (bL w _ d2)).trans d2;have HK:Hh (∀w,_):=λw=>hs k w a7;have a8:∀ob,Bl wr (wr.alloc ob):=λob=>aK;have c3:=K.1;have c4:=K.2.1;have HH:=ay (And.intro M (And.intro I K));change Hh _ at a8;generalize (l.getD k (0,0)).1=x,(l.getD k (0,0)).2=y at *;have⟨x2,a3⟩:=Ex ((s (k+1)).1);have⟨y2,a4⟩:=Ex ((s (k+1)).2);rw[<-a3,<-a4]at HK;have HX:=ay a3;have HY:=ay a4;go_wp2_with (go_at_call 139;apply (HK.o _).mn;intro w2 a9;have V:=bt (a8 _) a9;have q2:=HH.2.2.below Oo V;have q4:=V.size;have e1:=q2.1;have e2:=q2.2.1;have e3:=q2.2.2.1;have e4:=q2.2.2.2;have HQ:=ay (And.intro (HH.2.1.below Oo V) (And.intro q2 (bt HH.1 V)));skip);go_roundw;exact⟨k+1,Oo,Gg,by simp[World.setCell];omega,ay ⟨(HQ.2.2.setCell (by show w.1.size<=w.1.size+1;omega) _).setCell (by show w.1.size<=w.1.size+1;omega) _,HQ.1.other Oo _ _,by rw[<-HX.o,<-HY.o];exact HQ.2.1.set _ _⟩⟩;exact Im
 obtain rfl:k=n:=Oo;have i1:=aY k;have⟨M,I,K⟩:=hH.o;have c1:=I.1;have c2:=I.2.1;have c3:=I.2.2.1;have c4:=I.2.2.2;have e1:=K.1;have e2:=K.2.1;have⟨x,hx⟩:=Ex ((s k).1);have⟨y,hy⟩:=Ex ((s k).2);rw[<-hx]at e1;rw[<-hy]at e2;have HX:=ay hx;have HY:=ay hy;have HQ:=ay (And.intro M (I.set x y));clear hH I K hx hy M;go_wp2;have r1:=HQ.2.1;have r2:=HQ.2.2.1;refine aU (v:=.agg #[ai x,ai y]) (by simp[results,results98,go_sem,r1,r2]) rfl ⟨by rw[HX.o,HY.o],(HQ.1.setCell eA _).setCell eA _⟩
end Go.Proofs.YtnpgdnaeghilhaaGreat
namespace Go.Proofs.YtnpgdnaeghilhaaGreat
open Go.Proofs.Tryz Go.RowKit Meet
section
variable {bel a:Bool}{u x y:Int}{l bag:LI}{rows es:LL}{vs xs:LV}{B b c n o pB q s k g:Nat}{e V O:TypeId}{v vr I vb ve:Value}{W w w' W' w3:World}
theorem qD3:aF 207 #[ai x] w (.bool false) λw'=>w'=w:=by
 go_enter func207,ntmps207;go_wp2;go_ret;exact⟨Ss,rfl⟩
theorem ZE:aF 184 #[ai x] w (.bool false) λw'=>w'=w:=by
 go_enter func184,ntmps184;go_wp2;go_ret;exact⟨Ss,rfl⟩
theorem Va:aF 183 #[ai x,ai y] w (.bool (decide (x<y))) λw'=>w'=w:=by
 go_enter func183,ntmps183;go_wp2_with (go_at_call 207;apply (qD3).mono;rintro e w' ⟨rfl,rfl⟩);go_ret;exact⟨rfl,rfl⟩
def Up(l:LI):Prop:=∀i j,i<=j->j<l.length->l.getD i 0<=l.getD j 0
theorem jM(h:Asc l):Up l:=λi j K M=>by
 rcases dL i j with I|I;exact Int.le_of_lt (h i j I M);rw[show i=j by omega];exact Int.le_refl _
def bsQ(l:LI)(x:Int):Nat:=l.countP λy=>decide (y<x)
def bsF(l:LI)(x:Int):Bool:=decide (bsQ l x<l.length)&&decide (l.getD (bsQ l x) 0=x)
theorem qFI(hq:q<=l.length)(M:∀j,j<q->l.getD j 0<x)(O:∀j,q<=j->j<l.length->x<=l.getD j 0):bsQ l x=q:=by
 unfold bsQ;conv=>lhs;rw[<-tD q l]
 rw[List.countP_append];have a:(l.take q).countP (λy=>decide (y<x))=(l.take q).length:=List.countP_eq_length.2 λy I=>by
  have⟨j,K,e⟩:=gO I;rw[bZ]at K;have:=M j Oo;rw[gD,gE Oo]at this;rw[List.getElem_take]at e;simp only[dI,e]at this;exact fD this
 have b:(l.drop q).countP (λy=>decide (y<x))=0:=List.countP_eq_zero.2 λy I=>by
  have⟨j,K,e⟩:=gO I;rw[dP]at K;have:=O (q+j) Oo Oo;rw[gD,gE Oo]at this;rw[List.getElem_drop]at e;simp only[dI,e]at this;simp;omega
 rw[a,b,bZ];omega
theorem qGg(hs:Up l)x:∃q,q<=l.length/\(∀j,j<q->l.getD j 0<x)/\(∀j,q<=j->j<l.length->x<=l.getD j 0):=by
 have key:∀d k,k+d=l.length->(∀j,j<k->l.getD j 0<x)->∃q,q<=l.length/\(∀j,j<q->l.getD j 0<x)/\(∀j,q<=j->j<l.length->x<=l.getD j 0):=by
  intro d;induction d with
  |zero=>intro k M h;exact⟨k,Oo,h,λj I K=>Oo⟩
  |succ d ih=>
   intro k M h;by_cases O:l.getD k 0<x
   .exact ih (k+1) Oo (λj V=>by
     rcases dL j k with I|I;exact h j I;rw[show j=k by omega];exact O)
   exact⟨k,Oo,h,λj I K=>O1 (hs k j I K)⟩
 exact key l.length 0 Oo (λj V=>Oo)
theorem ZF(hs:Up l)x:bsQ l x<=l.length/\(∀j,j<bsQ l x->l.getD j 0<x)/\(∀j,bsQ l x<=j->j<l.length->x<=l.getD j 0):=by
 have⟨q,I,K,M⟩:=qGg hs x;rw[qFI I K M];exact⟨I,K,M⟩
theorem UW{b}(h:k=q)(I:a=b):Ending.returned (.tuple #[ai k,.bool a])=.returned (.tuple #[ai q,.bool b]):=by rw[h,I]
theorem ZO w x(h:IS w v l)(hl:l.length<=1099511627776)(hs:Up l):
 aF 155 #[v,ai x] w (.tuple #[ai (bsQ l x),.bool (bsF l x)]) λw'=>∃d,w'=w.drewN d:=by
 obtain⟨rq,V⟩:=Ex (bsQ l x);obtain⟨rf,a3⟩:=Ex (bsF l x);rw[<-V,<-a3];obtain⟨a,cap,rfl,hc⟩:=h;obtain⟨n,O⟩:=Ex l.length;rw[<-O]at hc hl |-;change Hh _ at hc;have HQ:Hh (∀q,q<=n->(∀t,t<q->l.getD t 0<x)->(∀t,q<=t->t<n->x<=l.getD t 0)->q=rq/\(decide (q<n)&&decide (l.getD q 0=x))=rf):=ay (by
  intro q h1 h2 h3;have e:=qFI (by rw[<-O];exact h1) h2 (by rw[<-O];exact h3);rw[V,a3];unfold bsF;rw[e,<-O];exact⟨rfl,rfl⟩)
 have S:Hh (∀i j,i<=j->j<n->l.getD i 0<=l.getD j 0):=ay (by rw[O];exact hs);clear O hs V a3;go_enter func155,ntmps155;go_wp2;go_loopg [7,8] n (λg s7 s8 wr=>∃lo hi q:Nat,s7=ai lo/\s8=ai hi/\lo<=hi/\hi<=n/\hi-lo<=g/\wr=w.drewN q/\Hh ((∀t,t<lo->l.getD t 0<x)/\(∀t,hi<=t->t<n->x<=l.getD t 0)))
 case atStart=>exact⟨0,n,0,rfl,rfl,nZ _,nR _,Oo,rfl,ay ⟨λt ht=>absurd ht (Nat.not_lt_zero _),λt h1 h2=>Oo⟩⟩
 case round=>
  obtain⟨lo,hi,q,rfl,rfl,a8,a6,hg,rfl,I⟩:=hrel;by_cases a9:lo<hi
  .rcases hc.o with h0|⟨b,o,rfl,K⟩;omega;have cm:aC w b (o+(lo+hi) / 2) (ai (l.getD ((lo+hi) / 2) 0)):=K _ Oo;clear K;generalize hy:l.getD ((lo+hi) / 2) 0=y at cm;change Hh _ at hy;by_cases a4:y<x
   .go_wp2_with (go_at_call 183;apply (Va).mono;rintro e w' ⟨rfl,rfl⟩);go_roundg (hi-((lo+hi) / 2+1))
    case measure=>omega
    case rel=>
     refine⟨(lo+hi) / 2+1,hi,_,by rw[show((lo:Int)+(hi:Int)) / 2+1=(((lo+hi) / 2+1:Nat):Int)by omega],rfl,Oo,a6,nR _,rfl,ay ⟨λt ht=>?_,I.o.2⟩⟩;have:=S t ((lo+hi) / 2) Oo Oo;rw[hy.o]at this;omega
   go_wp2_with (go_at_call 183;apply (Va).mono;rintro e w' ⟨rfl,rfl⟩);go_roundg ((lo+hi) / 2-lo)
   case measure=>omega
   case rel=>
    refine⟨lo,(lo+hi) / 2,_,rfl,by rw[show((lo:Int)+(hi:Int)) / 2=(((lo+hi) / 2:Nat):Int)by omega],Oo,Oo,nR _,rfl,ay ⟨I.o.1,λt ht a7=>?_⟩⟩;have:=S _ t ht a7;rw[hy.o]at this;omega
  have:hi=lo:=Oo;subst this;obtain⟨E1,E2⟩:=HQ _ a6 I.1 I.2;have a5:=ay E1;by_cases O:hi<n
  .rcases hc.o with h0|⟨b,o,rfl,K⟩;omega;have cl:=K _ Oo;have M:Hh (decide (l.getD hi 0=x)=rf):=ay (by rw[<-E2];simp[O]);clear K E1 E2;generalize l.getD hi 0=y at *;have dn:decide (hi<n)=true:=Sy;by_cases a4:y=x
   .go_wp2_with (go_at_call 184;apply (ZE).mono;rintro e w' ⟨rfl,rfl⟩);go_ret2;exact⟨UW a5 (by rw[<-M.o];simp[a4]),_,rfl⟩
   go_wp2_with (go_at_call 184;apply (ZE).mono;rintro e w' ⟨rfl,rfl⟩);go_ret2;exact⟨UW a5 (by rw[<-M.o];simp[a4]),_,rfl⟩
  have dn:decide (hi<n)=false:=Sy;have M:Hh (false=rf):=ay (by rw[<-E2,dn];rfl);clear E1 E2;go_wp2_with (go_at_call 184;apply (ZE).mono;rintro e w' ⟨rfl,rfl⟩);go_ret2;exact⟨UW a5 M,_,rfl⟩
theorem Vv(h:Asc l)p:Up (l.drop p):=λi j I K=>by
 rw[dP]at K;have:=jM h (p+i) (p+j) Oo Oo;simpa only[gD,List.getElem?_drop]using this
theorem Tryz.infoCur:(Tryz.prog.info? 268).map (λi=>(i.zero,i.size,i.bytes))=some (some (.agg #[.pointer none,ai 0]),2,16):=Kl
theorem VB(h:w.ownsRow B e s v n xs)(ho:Og c w w')(ht:∃cur,w.1[c]?=some (.cells cur V (0,0)))(K:e≠V):w'.ownsRow B e s v n xs:=by
 have⟨h1,M⟩:=h;refine⟨h1,?_⟩;rcases M with M|⟨g,cap,cur,hv,hg,I,hr⟩;exact Or.inl M;refine Or.inr ⟨g,cap,cur,hv,hg,?_,hr⟩;rw[ho.block g (λe=>by
  have⟨a3,O⟩:=ht;rw[e,O]at I;simp only[oI,Obj.cells.injEq]at I;exact K I.2.1.symm)]
 exact I
theorem own_ne(h:w.ownsRow B e s v n xs)(ht:∃cur,w.1[b]?=some (.cells cur O (0,0)))(I:e≠O):some b≠v.ownBlock:=by
 intro hb;obtain⟨h1,h2⟩:=h;rcases h2 with ⟨rfl,_⟩|⟨g,cap,cur,rfl,hg,K,hr⟩;simp[Value.ownBlock]at hb;simp only[Value.ownBlock,oI]at hb;subst hb;obtain⟨V,M⟩:=ht;rw[M]at K;simp only[oI,Obj.cells.injEq]at K;exact I K.2.1.symm
theorem xo(h:∃cur,w.1[b]?=some (.cells cur e (0,0))):b<w.1.size:=by
 have⟨cur,h⟩:=h;rcases dL b w.1.size with I|I;exact I;rw[dO I]at h;cases h
theorem qH(w:World)v t:∀j u,[v][j]?=some u->(w.alloc (.cells #[v] t)).cell? (((az w.1.size 0):Addr).add j)=some u:=by
 intro j u I;match j,I with
 |0,I=>simp at I;subst I;simp[Addr.add]
theorem Tryz.infoIS:(Tryz.prog.info? 24).map (λi=>(i.zero,i.size,i.bytes))=some (some sn,1,24):=Kl
structure PR(W:World)(B pB:Nat)(u:Int)(bel:Bool)(vr:Value)(vs:LV)(rows:LL):Prop where
 typ:∃cur,W.1[pB]?=some (.cells cur 212 (0,0))
 c0:W.cell? (az pB 0)=some (ai u)
 c1:W.cell? (az pB 1)=some vr
 c2:W.cell? (az pB 2)=some (.bool bel)
 f1:W.frozen? (az pB 1)=false
 own:W.ownsRow B 24 1 vr rows.length vs
 len:vs.length=rows.length
 each:∀i,i<rows.length->W.ownsRow B 3 1 (vs.getD i undef) (rows.getD i []).length ((rows.getD i []).map ai)
theorem PR.below(h:PR W B pB u bel vr vs rows)(hb:Bl W W'):PR W' B pB u bel vr vs rows where
 typ:=by rw[hb.block pB (xo h.typ)];exact h.typ
 c0:=(hb.cell (p:=az pB 0) (xo h.typ)).trans h.c0
 c1:=(hb.cell (p:=az pB 1) (xo h.typ)).trans h.c1
 c2:=(hb.cell (p:=az pB 2) (xo h.typ)).trans h.c2
 f1:=(hb.frozen (p:=az pB 1) (xo h.typ)).trans h.f1
 own:=qB h.own hb
 len:=h.len
 each i hi:=qB (h.each i hi) hb
theorem qK(h:w.ownsRow B e s v n xs)(I:v.ownBlock=some g):∃cur,w.1[g]?=some (.cells cur e (0,0)):=by
 rcases h.2 with ⟨rfl,_⟩|⟨g',cap,cur,rfl,_,K,_⟩;simp[Value.ownBlock]at I;simp only[Value.ownBlock,oI]at I;subst I;exact⟨cur,K⟩
theorem PR.step{o}(h:PR W B pB u bel vr vs rows)
 (hv:W.ownsRow B 3 1 v l.length (l.map ai)) (O:w3.ownsRow B 24 1 I (rows.length+1) (vs++[v])) (hg:(W.alloc o).grownBy w3 vr.ownBlock):
 PR (w3.setCell (az pB 1) I) B pB u bel I (vs++[v]) (rows++[l]):=by
 have hsz:(W.alloc o).1.size=W.1.size+1:=Ss;have hk:=λb hb a4=>(hg.block b Oo a4).trans (eL hb);have K:=hk _ (xo h.typ) (own_ne h.own h.typ Dd);have M:∃cur,w3.1[pB]?=some (.cells cur 212 (0,0)):=by rw[K];exact h.typ
 have V:Og pB w3 (sC w3 pB 1 I):=(Og.refl _ _).set _ _;have hint:∀{x:Value} {k:Nat} {xs:LV},W.ownsRow B 3 1 x k xs->(sC w3 pB 1 I).ownsRow B 3 1 x k xs:=λhx=>
  VB (qD hx (λg a3=>hk g ((hx.lt g a3).2) (λe=>own_ne h.own (qK hx a3) Dd e))) V M Dd
 refine⟨?_,?_,?_,?_,?_,?_,?_,λi hi=>?_⟩;have⟨cur,hc⟩:=M;exact⟨_,eN hc⟩;exact(eE Ss).trans ((bF K).trans h.c0);exact eJ ((bF K).trans h.c1);exact(eE Ss).trans ((bF K).trans h.c2);rw[fS];exact(dA K).trans h.f1;rw[lA];exact VB O V M Dd;rw[lA,lA,h.len];rfl;rw[lA]at hi;simp only[cQ,List.length_nil]at hi;by_cases e:i<rows.length
 .have h1:(rows++[l]).getD i []=rows.getD i []:=by rw[gD,aL e,<-gD]
  have h2:(vs++[v]).getD i undef=vs.getD i undef:=by rw[gD,aL (by rw[h.len];exact e),<-gD]
  rw[h1,h2];exact hint (h.each i e)
 obtain rfl:i=rows.length:=Oo;have h1:(rows++[l]).getD rows.length []=l:=by rw[gD,bQ eA];simp
 have h2:(vs++[v]).getD rows.length undef=v:=by rw[gD,bQ (by rw[h.len];exact eA),h.len];simp
 rw[h1,h2];exact hint hv
def zV(bag:LI)(es:LL):LL:=bag.map λx=>plc (λi=>decide (x∈es.getD i [])) es.length
theorem UL es k(h:k<bag.length):zV (bag.take (k+1)) es=zV (bag.take k) es++[plc (λi=>decide (bag.getD k 0∈es.getD i [])) es.length]:=by
 unfold zV;rw[tA,gE h,gD (l:=bag),gE h];simp only[Option.toList_some,mA,List.map_cons,List.map_nil,dI]
theorem Jr bag es:(zV bag es).length=bag.length:=by simp[zV]
theorem PR.other(h:PR W B pB u bel vr vs rows)(M:∃cur,W.1[c]?=some (.cells cur 212 (0,0)))(O:c≠pB):PR (W.setCell (az c o) v) B pB u bel vr vs rows:=by
 have I:Og c W (sC W c o v):=(Og.refl _ _).set _ _;have K:=I.block _ (Ne.symm O);exact⟨by rw[K];exact h.typ,(bF K).trans h.c0,(bF K).trans h.c1,(bF K).trans h.c2,(dA K).trans h.f1,
  VB h.own I M Dd,h.len,λi hi=>VB (h.each i hi) I M Dd⟩
theorem qU(h:∃cur,W.1[c]?=some (.cells cur e (0,0))):∃cur,(W.setCell (az c o) v).1[c]?=some (.cells cur e (0,0)):=by
 have⟨cur,h⟩:=h;exact⟨_,eN h⟩
theorem qE{B'}(h:w.ownsRow B e s v n xs)(hB:B'<=B):w.ownsRow B' e s v n xs:=by
 have⟨K,I⟩:=h;refine⟨K,?_⟩;rcases I with I|⟨g,cap,cur,hv,M,O⟩;exact .inl I;exact .inr ⟨g,cap,cur,hv,bM hB M,O⟩
theorem Zx w(hb:IS w vb bag)(h:ISS w ve es)(d9:bag.length<=1000)(hl:qS es):
 Cl 147 #[vb,ve] w λe w'=>∃vr vs,e=.returned (.agg #[ai es.length,vr,.bool true])/\PR w' w.1.size (w.1.size+1) es.length true vr vs (zV bag es)/\Bl w w':=by
 have⟨i0,hi,e0,e1,e2⟩:=aX Tryz.infoIS;have HE:=ay h;change Hh _ at hl;obtain⟨a,cap,rfl,hc⟩:=hb;obtain⟨a',a7,rfl,-⟩:=h;have⟨n,hn⟩:=Ex bag.length;have HN:=ay hn;have HC:=ay hc;rw[<-hn]at HC d9 |-;clear hc hn;have c9:PR ((aJ w #[ai 0,sn,.bool false] 212).alloc (.cells #[ai es.length,sn,.bool true] 212)) w.1.size (w.1.size+1) es.length true sn [] []:=
  ⟨⟨_,by have:=dZ (aJ w #[ai 0,sn,.bool false] 212) (.cells #[ai es.length,sn,.bool true] 212);simpa using this⟩,Sg,Sg,Sg,Sg,eK,rfl,λi hi=>by simp at hi⟩
 change Hh _ at c9;go_enter func147,ntmps147;go_wp2;go_loopw [13] (λt wr=>∃k:Nat,k<=n/\t=ai k/\w.1.size+1<wr.1.size/\Hh (Bl w wr/\wr.1[w.1.size]?=some (.cells #[ai 0,sn,.bool false] 212 (0,0))/\∃vr vs,PR wr w.1.size (w.1.size+1) es.length true vr vs (zV (bag.take k) es))) (λt _=>n-(intOf t).toNat);exact⟨0,eC,rfl,Ss,ay ⟨(aK).alloc Ss _,by rw[eL Ss];exact eO,_,_,c9⟩⟩;clear c9;obtain⟨k,hk,rfl,hsz,hH⟩:=hrel;have⟨a3,O,vr,vs,M⟩:=hH.o;by_cases d2:k<n
 .have i1:=aV d2;rcases HC.o with h0|⟨b,o,rfl,a4⟩;omega;have d0:=a4 k d2;have c1:=(a3.cell (bL w _ d0)).trans d0;have e3:=ay (HE.o.below a3);have e4:k<bag.length:=by rw[<-HN.o];exact d2
  have d3:=ay (UL es k e4);have d4:(zV (bag.take k) es).length=k:=by rw[Jr,bZ];omega
  have c5:=M.c1;have f5:=M.f1;have V:=M.own;rw[d4]at V;have a5:=ay M;have b1:=ay a3;have e5:=ay O;have e6:=a3.size;clear hH M a3 a4 d0 O;have⟨pl,b7⟩:=Ex (plc (λi=>decide (bag.getD k 0∈es.getD i [])) es.length);have K1:Hh (∀W,ISS W (.slice a' es.length a7) es->Cl 105 #[ai (bag.getD k 0),.slice a' es.length a7] W λe w'=>∃v,e=.returned v/\w'.ownsRow W.1.size 3 1 v pl.length (pl.map ai)/\Bl W w'):=(λW hW=>by rw[b7];exact ye W _ _ hW hl);rw[<-b7]at d3;clear b7;generalize bag.getD k 0=x at *;go_wp2_with fail;go_region_law (first
   |(go_simp;go_at_call 105;apply (K1.o wr.drew e3.o).mono;rintro e w2 ⟨v,rfl,hv,a8⟩;have I:Bl wr w2:=eB.drew.trans a8;obtain⟨av,cv,rfl,-⟩:=qN hv;have c6:=(I.cell hsz).trans c5;have a9:=bN hsz I.size;have c8:∀o',aC (w2.alloc o') (w.1.size+1) 1 vr:=λo'=>(dR _ _ _ a9).trans c6)
   |(refine step_append_lies _ Fl _ _ _ Fl _ 24 _ _ 1 _ underlying23 hi e0 e1 e2 rfl Dd _ k _ Fl ((qB V I).alloc _) _ 1 1 _ Fl Fl (qH _ _ _) (λu hu=>by simp at hu;subst hu;rfl) Dd Um Oo (by have:=I.size;simp at this |-;omega) (w2.1.size+1) Ss ?_;intro g3 cp3 w3 a6 K e9 f8;have d5:=(K.block _ Sy (own_ne (qB V I) (a5.o.below I).typ Dd)).trans (eL a9);have c7:=(bF d5).trans c6;have f7:=(dA d5).trans (a5.o.below I).f1))
  all_goals
   have b8:=(I.block _ Oo).trans e5
   have HF:Hh (Bl w (sC w3 (w.1.size+1) 1 (sZ g3 0 (k+1) cp3))/\(sC w3 (w.1.size+1) 1 (sZ g3 0 (k+1) cp3)).1[w.1.size]?=some (.cells #[ai 0,sn,.bool false] 212 (0,0))/\∃vr vs,PR (sC w3 (w.1.size+1) 1 (sZ g3 0 (k+1) cp3)) w.1.size (w.1.size+1) es.length true vr vs (zV (bag.take (k+1)) es)):=
    ay ⟨(zW Oo (qB V I) (bt b1 I) K).setCell (by show w.1.size<=w.1.size+1;omega) _,(eG (by show w.1.size≠w.1.size+1;omega)).trans (((K.block _ Sy (own_ne (qB V I) ⟨_,b8⟩ Dd)).trans (eL Oo)).trans b8),_,_,by rw[d3.o];exact (a5.o.below I).step (qE hv e6) (by rw[d4];exact a6) K⟩
   have e7:w.1.size+1<w3.1.size:=by have:=K.size;simp at this;omega
   clear b8 K a6 hv I a8
   go_wp2
   go_roundw;exact⟨k+1,Oo,Gg,by simpa[World.setCell]using e7,HF⟩;exact Im
 obtain rfl:k=n:=Oo;have i1:=aY k;rw[HN.o,tL]at M;have c0:=M.c0;have c1:=M.c1;have c2:=M.c2;have z0:wr.cell? (az w.1.size 0)=some (ai 0):=by rw[eI O];rfl
 have z1:wr.cell? (az w.1.size 1)=some sn:=by rw[eI O];rfl
 have z2:wr.cell? (az w.1.size 2)=some (.bool false):=by rw[eI O];rfl
 have y0:wr.frozen? (az w.1.size 0)=false:=frozen_of_row _ _ _ _ _ O;have y1:wr.frozen? (az w.1.size 1)=false:=frozen_of_row _ _ _ _ _ O;have y2:wr.frozen? (az w.1.size 2)=false:=frozen_of_row _ _ _ _ _ O;obtain⟨av,cv,e8⟩:∃av cv,vr=.slice av (zV bag es).length cv:=by
  rcases M.own.2 with ⟨rfl,h2⟩|⟨g,cp,cur,rfl,-⟩;exact⟨none,0,by rw[h2]⟩;exact⟨_,_,rfl⟩
 subst e8;have a5:=ay M;have b1:=ay a3;change Hh _ at O;clear hH M a3;generalize (zV bag es).length=m at *;go_wp2;refine aU (by simp[results,results147,go_sem,z0,z1,z2]) rfl
  ⟨_,rfl,⟨_,((a5.o.other ⟨_,O⟩ Oo).other (qU ⟨_,O⟩) Oo).other (qU (qU ⟨_,O⟩)) Oo⟩,((b1.o.setCell eA _).setCell eA _).setCell eA _⟩
def zt(bag:LI)(es:LL):LL:=es.map λe=>plc (λi=>decide (bag.getD i 0∈e)) bag.length
theorem Js bag k(h:k<es.length):zt bag (es.take (k+1))=zt bag (es.take k)++[plc (λi=>decide (bag.getD i 0∈es.getD k [])) bag.length]:=by
 unfold zt;rw[tA,gE h,gD (l:=es),gE h];simp only[Option.toList_some,mA,List.map_cons,List.map_nil,dI]
theorem qA8 bag es:(zt bag es).length=es.length:=by simp[zt]
theorem Q7 w(hb:IS w vb bag)(h:ISS w ve es)(g5:bag.length<=1000)(hl:qS es)(hle:es.length<=1000):
 Cl 148 #[vb,ve] w λe w'=>∃vr vs,e=.returned (.agg #[ai bag.length,vr,.bool false])/\PR w' w.1.size (w.1.size+1) bag.length false vr vs (zt bag es)/\Bl w w':=by
 have⟨i0,hi,e0,e1,e2⟩:=aX Tryz.infoIS;have HE:=ay hb;have HL:=ay hl.2;obtain⟨a,cap,rfl,hc⟩:=h;obtain⟨a',a7,rfl,-⟩:=hb;have⟨n,hn⟩:=Ex es.length;change Hh _ at hn hc;rw[<-hn]at hc hle |-;clear hl;have c9:PR ((w.alloc (.cells #[ai 0,sn,.bool false] 212)).alloc (.cells #[ai bag.length,sn,.bool false] 212)) w.1.size (w.1.size+1) bag.length false sn [] []:=
  ⟨⟨_,by have:=dZ (w.alloc (.cells #[ai 0,sn,.bool false] 212)) (.cells #[ai bag.length,sn,.bool false] 212);simpa using this⟩,Sg,Sg,Sg,Sg,eK,rfl,λi hi=>by simp at hi⟩
 change Hh _ at c9;go_enter func148,ntmps148;go_wp2;go_loopw [13] (λt wr=>∃k:Nat,k<=n/\t=ai k/\w.1.size+1<wr.1.size/\Hh (Bl w wr/\wr.1[w.1.size]?=some (.cells #[ai 0,sn,.bool false] 212 (0,0))/\∃vr vs,PR wr w.1.size (w.1.size+1) bag.length false vr vs (zt bag (es.take k)))) (λt _=>n-(intOf t).toNat);exact⟨0,eC,rfl,Ss,ay ⟨(aK).alloc Ss _,by rw[eL Ss];exact eO,_,_,c9⟩⟩;clear c9;obtain⟨k,hk,rfl,hsz,hH⟩:=hrel;have⟨V,O,vr,vs,M⟩:=hH.o;by_cases d2:k<n
 .have i1:=aV d2;rcases hc.o with h0|⟨b,o,rfl,a4⟩;omega;have⟨ue,d0,d3⟩:=a4 k d2;have c1:=(V.cell (bL w _ d0)).trans d0;have e3:=ay (d3.below V);obtain⟨ae,ce,rfl,-⟩:=d3;have e4:=ay (HE.o.below V);have e5:k<es.length:=by rw[<-hn.o];exact d2
  have d4:=ay (Js bag k e5);have d5:(zt bag (es.take k)).length=k:=by rw[qA8,bZ];omega
  have c5:=M.c1;have f5:=M.f1;have a3:=M.own;rw[d5]at a3;have a5:=ay M;have b1:=ay V;have e6:=ay O;have e7:=V.size;clear hH M V a4 d0 O;have⟨pl,b7⟩:=Ex (plc (λi=>decide (bag.getD i 0∈es.getD k [])) bag.length);have K1:Hh (∀W,IS W (.slice a' bag.length a7) bag->IS W (.slice ae (es.getD k []).length ce) (es.getD k [])->Cl 121 #[.slice a' bag.length a7,.slice ae (es.getD k []).length ce] W λe w'=>∃v,e=.returned v/\w'.ownsRow W.1.size 3 1 v pl.length (pl.map ai)/\Bl W w'):=(λW hW e8=>by rw[b7];exact zq W _ _ _ _ hW e8 Oo (HL k));rw[<-b7]at d4;clear b7;generalize es.getD k []=ed at *;generalize ed.length=edl at *;go_wp2_with fail;go_region_law (first
   |(go_simp;go_at_call 121;apply (K1.o wr.drew e4.o e3.o).mono;rintro e w2 ⟨v,rfl,hv,a8⟩;have I:Bl wr w2:=eB.drew.trans a8;obtain⟨av,cv,rfl,-⟩:=qN hv;have c6:=(I.cell hsz).trans c5;have a9:=bN hsz I.size;have c8:∀o',aC (w2.alloc o') (w.1.size+1) 1 vr:=λo'=>(dR _ _ _ a9).trans c6)
   |(refine step_append_lies _ Fl _ _ _ Fl _ 24 _ _ 1 _ underlying23 hi e0 e1 e2 rfl Dd _ k _ Fl ((qB a3 I).alloc _) _ 1 1 _ Fl Fl (qH _ _ _) (λu hu=>by simp at hu;subst hu;rfl) Dd Um Oo (by have:=I.size;simp at this |-;omega) (w2.1.size+1) Ss ?_;intro g3 cp3 w3 a6 K f9 g4;have d6:=(K.block _ Sy (own_ne (qB a3 I) (a5.o.below I).typ Dd)).trans (eL a9);have c7:=(bF d6).trans c6;have f7:=(dA d6).trans (a5.o.below I).f1))
  all_goals
   have b8:=(I.block _ Oo).trans e6
   have HF:Hh (Bl w (sC w3 (w.1.size+1) 1 (sZ g3 0 (k+1) cp3))/\(sC w3 (w.1.size+1) 1 (sZ g3 0 (k+1) cp3)).1[w.1.size]?=some (.cells #[ai 0,sn,.bool false] 212 (0,0))/\∃vr vs,PR (w3.setCell (az (w.1.size+1) 1) (sZ g3 0 (k+1) cp3)) w.1.size (w.1.size+1) bag.length false vr vs (zt bag (es.take (k+1)))):=
    ay ⟨(zW Oo (qB a3 I) (bt b1 I) K).setCell (by show w.1.size<=w.1.size+1;omega) _,(eG (by show w.1.size≠w.1.size+1;omega)).trans (((K.block _ Sy (own_ne (qB a3 I) ⟨_,b8⟩ Dd)).trans (eL Oo)).trans b8),_,_,by rw[d4.o];exact (a5.o.below I).step (qE hv e7) (by rw[d5];exact a6) K⟩
   have e9:w.1.size+1<w3.1.size:=by have:=K.size;simp at this;omega
   clear b8 K a6 hv I a8
   go_wp2
   go_roundw;exact⟨k+1,Oo,Gg,by simpa[World.setCell]using e9,HF⟩;exact Im
 obtain rfl:k=n:=Oo;have i1:=aY k;rw[hn.o,tL]at M;have c0:=M.c0;have c1:=M.c1;have c2:=M.c2;have z0:wr.cell? (az w.1.size 0)=some (ai 0):=by rw[eI O];rfl
 have z1:wr.cell? (az w.1.size 1)=some sn:=by rw[eI O];rfl
 have z2:wr.cell? (az w.1.size 2)=some (.bool false):=by rw[eI O];rfl
 have y0:wr.frozen? (az w.1.size 0)=false:=frozen_of_row _ _ _ _ _ O;have y1:wr.frozen? (az w.1.size 1)=false:=frozen_of_row _ _ _ _ _ O;have y2:wr.frozen? (az w.1.size 2)=false:=frozen_of_row _ _ _ _ _ O;obtain⟨av,cv,f8⟩:∃av cv,vr=.slice av (zt bag es).length cv:=by
  rcases M.own.2 with ⟨rfl,h2⟩|⟨g,cp,cur,rfl,-⟩;exact⟨none,0,by rw[h2]⟩;exact⟨_,_,rfl⟩
 subst f8;have a5:=ay M;have b1:=ay V;change Hh _ at O;clear hH M V;generalize (zt bag es).length=m at *;go_wp2;refine aU (by simp[results,results148,go_sem,z0,z1,z2]) rfl
  ⟨_,rfl,⟨_,((a5.o.other ⟨_,O⟩ Oo).other (qU ⟨_,O⟩) Oo).other (qU (qU ⟨_,O⟩)) Oo⟩,((b1.o.setCell eA _).setCell eA _).setCell eA _⟩
def qJM(m:NB):Value:=.agg #[.bool (m 0),.bool (m 1),.bool (m 2),.bool (m 3),.bool (m 4),.bool (m 5)]
def YR(m:NB):AV:=#[.bool (m 0),.bool (m 1),.bool (m 2),.bool (m 3),.bool (m 4),.bool (m 5)]
theorem qGM m{v}(h:v<6):(YR m)[v]?=some (.bool (m v)):=by
 obtain rfl|rfl|rfl|rfl|rfl|rfl:v=0\/v=1\/v=2\/v=3\/v=4\/v=5:=Oo;all_goals rfl
theorem Jk(m:NB){v:Nat}(h:v<6)w:(Sem.run Tryz.prog (Instr.index 170 (.agg #[.bool (m 0),.bool (m 1),.bool (m 2),.bool (m 3),.bool (m 4),.bool (m 5)]) (ai v)) w)=.ok (.bool (m v)) w:=by
 obtain rfl|rfl|rfl|rfl|rfl|rfl:v=0\/v=1\/v=2\/v=3\/v=4\/v=5:=Oo;all_goals kernel_rfl
theorem qDp w{m}:
 Cl 115 #[qJM m] w λe w'=>∃v,e=.returned v/\w'.ownsRow w.1.size 3 1 v (plc m 6).length ((plc m 6).map ai)/\Bl w w':=by
 have⟨i0,hi,a3,a4,a5⟩:=aX Tryz.infoInt;have a6:Hh (((aJ w #[.bool (m 0),.bool (m 1),.bool (m 2),.bool (m 3),.bool (m 4),.bool (m 5)] 170).alloc (.cells #[] 3)).ownsRow w.1.size 3 1 (sZ (w.1.size+1) 0 0 0) (plc m 0).length ((plc m 0).map ai)):=(by
  have h:=oM (aJ w #[.bool (m 0),.bool (m 1),.bool (m 2),.bool (m 3),.bool (m 4),.bool (m 5)] 170) (e:=3) (size:=1) #[] 0 eA Dd rfl;rw[aM]at h;exact qE h (Nat.le_succ _))
 unfold qJM;go_enter func115,ntmps115;go_wp2;go_loopw [3,8] (λu t wr=>∃v:Nat,v<=6/\t=ai v/\wr.ownsRow w.1.size 3 1 u (plc m v).length ((plc m v).map ai)/\Bl w wr) (λ_ t _=>6-(intOf t).toNat);exact⟨0,eC,rfl,a6,(aK).alloc Ss _⟩;obtain⟨v,hv,rfl,I,O⟩:=hrel;have a9:=xq m v;have a7:=O.size;by_cases a8:v<6
 .have i1:=aV a8;have c1:=(λv W h=>Jk m h W) v wr a8;cases hR:m v
  .rw[hR]at c1;have e1:=ay (kQ m v hR);clear hR;go_wp2;go_roundw;exact⟨v+1,Oo,Gg,by rw[e1.o];exact I,O⟩;exact Im
  rw[hR]at c1;have e1:=ay (Qe m v hR);clear hR;go_wp2_with (first
   |(at_builtin;refine wpList_append_own _ rfl _ _ 24 rfl _ 3 _ _ 1 8 underlying24 hi a3 a4 a5 rfl Dd _ _ _ rfl (I.alloc _) (az _ 0) 1 1 [ai v] rfl rfl ?c1 ?c2 ?c3 ?c4 ?c5 ?_)
   |fail)
  case c1=>
   intro j u hj;match j,hj with
   |0,hj=>simp at hj;subst hj;simp[Addr.add]
  case c2=>intro u hu;simp at hu;subst hu;rfl
  case c3=>unfold maxLen;omega
  case c4=>omega
  case c5=>simp;omega
  intro v' w1 K M _;have hb:=Q0 a7 I O M;have V:w1.ownsRow w.1.size 3 1 v' (plc m (v+1)).length ((plc m (v+1)).map ai):=by
   rw[e1.o];simpa using K
  clear K M I;go_wp2;go_roundw;exact⟨v+1,Oo,Gg,V,hb⟩;exact Im
 obtain rfl:v=6:=Oo;go_wp2;go_ret;exact⟨_,rfl,I,O⟩
end
end Go.Proofs.YtnpgdnaeghilhaaGreat
namespace Go.Proofs.YtnpgdnaeghilhaaGreat
open Go.Proofs.Tryz Go.RowKit
variable {x:Int}{l p row vs:LI}{ls:LL}{us xs:LV}{B b c fb i j n o tb s n1 n2 cap I K k:Nat}{e:TypeId}{v v1 v0 v2 vr vv y:Value}{W W0 w w' w3:World}{α:Type}
def qG6(v:Value):Prop:=∃a n c,v=.slice a n c/\n<=c
def ISc(w:World)(v:Value)(l:LI):Prop:=IS w v l/\qG6 v
theorem ISc.below(h:ISc w v l)(hb:Bl w w'):ISc w' v l:=⟨h.1.below hb,h.2⟩
theorem qIU(h:w.ownsRow B e s v n xs):qG6 v:=by
 rcases h.2 with ⟨rfl,I⟩|⟨g,cap,cur,rfl,-,-,I,-⟩;exact⟨_,_,_,rfl,eA⟩;exact⟨_,_,_,rfl,I⟩
def ISSc(w:World)(v:Value)(ls:LL):Prop:=∃a cap,v=.slice a ls.length cap/\(ls.length=0\/∃b o,a=some (az b o)/\∀j,j<ls.length->∃u,w.cell? (az b (o+j))=some u/\ISc w u (ls.getD j []))
theorem ISSc.iss(h:ISSc w v ls):ISS w v ls:=by
 obtain⟨a,cap,rfl,I⟩:=h;refine⟨a,cap,rfl,?_⟩;rcases I with I|⟨b,o,rfl,I⟩;exact .inl I;exact .inr ⟨b,o,rfl,λj K=>by obtain⟨u,M,O⟩:=I j K;exact⟨u,M,O.1⟩⟩
theorem ISSc.below(h:ISSc w v ls)(hb:Bl w w'):ISSc w' v ls:=by
 obtain⟨a,cap,rfl,I⟩:=h;refine⟨a,cap,rfl,?_⟩;rcases I with I|⟨b,o,rfl,I⟩;exact .inl I;exact .inr ⟨b,o,rfl,λj M=>by obtain⟨u,K,O⟩:=I j M;exact⟨u,(hb.cell (bL w _ K)).trans K,O.below hb⟩⟩
structure RS(W0 W:World)(v:Value)(us:LV)(ls:LL):Prop where
 sl:∃a cap,v=.slice a ls.length cap/\ls.length<=cap/\(ls.length=0\/∃b o,a=some (az b o)/\∀j,j<ls.length->W.cell? (az b (o+j))=some (us.getD j undef))
 len:us.length=ls.length
 each:∀i,i<ls.length->ISc W0 (us.getD i undef) (ls.getD i [])
theorem RS.issc(h:RS W0 W v us ls)(hb:Bl W0 W):ISSc W v ls:=by
 obtain⟨⟨a,cap,rfl,O,I⟩,V,M⟩:=h;refine⟨a,cap,rfl,?_⟩;rcases I with I|⟨b,o,rfl,I⟩;exact .inl I;exact .inr ⟨b,o,rfl,λj K=>⟨_,I j K,(M j K).below hb⟩⟩
theorem RS.iss(h:RS W0 W v us ls)(hb:Bl W0 W):ISS W v ls:=(h.issc hb).iss
theorem getD_take{l:List α}{d}(h:i<n):(l.take n).getD i d=l.getD i d:=by
 rw[gD,cL h,<-gD]
theorem jO{l:List α}{d}:(l.drop n).getD i d=l.getD (n+i) d:=by
 rw[gD,List.getElem?_drop,<-gD]
theorem drop_cons{l:LL}(h:j<l.length):l.drop j=l.getD j []::l.drop (j+1):=by
 rw[gD,gE h];exact List.drop_eq_getElem_cons h
theorem qBe{l:LL}(h:¬j<l.length):l.drop j=[]:=List.drop_eq_nil_of_le Oo
def qG7(W:World)(v v':Value):Prop:=v'=v\/∀g,v'.ownBlock=some g->W.1.size<=g
def vlF:LI->LI->Int->Int
 |[],_,_=>0
 |x::vs,r,v=>if x=v then r.getD 0 0 else vlF vs (r.drop 1) v
def qQ(vs vars row:LI):LI:=vars.map (vlF vs row)
theorem vZ{vars}:(qQ vs vars row).length=vars.length:=by simp[qQ]
theorem qH6{v}(I:j<vs.length)(h:vs.getD j 0=v):vlF (vs.drop j) (row.drop j) v=row.getD j 0:=by
 rw[xW I,vlF,fE h,jO,Nat.add_zero]
theorem qGU{v}(I:j<vs.length)(h:¬vs.getD j 0=v):vlF (vs.drop j) (row.drop j) v=vlF (vs.drop (j+1)) (row.drop (j+1)) v:=by
 rw[xW I,vlF,fF h,List.drop_drop]
theorem Jt w(h1:∃a c,v1=.slice a n1 c)(h2:∃a c,v2=.slice a n2 c)(h:IS w v0 vs)(hr:IS w vr row)x(hl:vs.length<=1099511627776)(a3:row.length=vs.length):
 aG 143 #[.agg #[v0,v1,v2],vr,ai x] w (ai (vlF vs row x)):=by
 obtain⟨a1,c1,rfl⟩:=h1;obtain⟨a2,c2,rfl⟩:=h2;obtain⟨a,cap,rfl,hc⟩:=h;obtain⟨ar,a6,rfl,a4⟩:=hr;have⟨W1,I⟩:=Ex (w.alloc (.cells #[.slice a vs.length cap,.slice a1 n1 c1,.slice a2 n2 c2] 58));have K:Hh (Bl w W1):=(by rw[I];exact(bJ _ _).alloc (nR _) _);have d0:W1.cell? (az w.1.size 0)=some (.slice a vs.length cap):=by rw[I,eH rfl];rfl
 have HC:Hh (∀j,j<vs.length->∃b o,a=some (az b o)/\aC W1 b (o+j) (ai (vs.getD j 0))):=λj O=>by
  rcases hc with h0|⟨b,o,rfl,h⟩;omega;exact⟨b,o,rfl,(K.o.cell (bL w _ (h j O))).trans (h j O)⟩
 have a5:Hh (∀j,j<vs.length->∃b o,ar=some (az b o)/\aC W1 b (o+j) (ai (row.getD j 0))):=λj O=>by
  rcases a4 with h0|⟨b,o,rfl,h⟩;omega;exact⟨b,o,rfl,(K.o.cell (bL w _ (h j Oo))).trans (h j Oo)⟩
 have HH:Hh (∀j,j<vs.length->vs.getD j 0=x->vlF (vs.drop j) (row.drop j) x=row.getD j 0):=λj O e=>qH6 O e;have HM:Hh (∀j,j<vs.length->¬vs.getD j 0=x->vlF (vs.drop j) (row.drop j) x=vlF (vs.drop (j+1)) (row.drop (j+1)) x):=λj O e=>qGU O e;have HE:Hh (vlF (vs.drop vs.length) (row.drop vs.length) x=0):=(by rw[List.drop_length];rfl);rw[a3];clear hc a4 a3;have⟨n,hn⟩:=Ex vs.length;rw[<-hn]at HC a5 HH HM HE hl d0 I |-;clear hn;go_enter func143,ntmps143;go_upto_region 1 with fail;rw[<-I];clear I;go_wp2;go_loop [12] (λt=>∃j:Nat,j<=n/\t=ai j/\Hh (vlF (vs.drop j) (row.drop j) x=vlF vs row x)) (λt=>n-(intOf t).toNat);exact⟨0,eC,rfl,ay rfl⟩;obtain⟨j,O,rfl,V⟩:=hrel;by_cases M:j<n
 .have i1:(j:Int)<n:=Oo;have⟨b,o,ea,e1⟩:=HC j M;subst ea;by_cases hx:vs.getD j 0=x
  .have⟨b2,o2,ea,e2⟩:=a5 j M;subst ea;have hf:=ay ((HH j M hx).symm.trans V);rw[hx]at e1;generalize row.getD j 0=y at *;clear hx;go_wp2;go_ret;exact⟨qa hf,K⟩
  have hf:=ay ((HM j M hx).symm.trans V);generalize vs.getD j 0=y at *;go_wp2;go_round;exact⟨j+1,Oo,Gg,hf⟩;exact Im
 obtain rfl:j=n:=Oo;have i1:¬((j:Int)<j):=Oo;go_wp2;go_ret;exact⟨qa (HE.o.symm.trans V),K⟩
theorem UO w vr vars(h1:∃a c,v1=.slice a n1 c)(h2:∃a c,v2=.slice a n2 c)(h:IS w v0 vs)(hr:IS w vr row)(hv:IS w vv vars)(hl:vs.length<=1099511627776)(a6:row.length=vs.length)(hlv:vars.length<=1000):
 Cl 100 #[.agg #[v0,v1,v2],vr,vv] w λe w'=>∃v,e=.returned v/\w'.ownsRow w.1.size 3 1 v (qQ vs vars row).length ((qQ vs vars row).map ai)/\Bl w w':=by
 have⟨i0,hi,b9,c7,c8⟩:=aX Tryz.infoInt;have KV:=ay λW x hW=>Jt W h1 h2 (h.below hW) (hr.below hW) x hl a6;obtain⟨a1,c1,rfl⟩:=h1;obtain⟨a2,c2,rfl⟩:=h2;obtain⟨a,cap,rfl,-⟩:=h;obtain⟨ar,d4,rfl,-⟩:=hr;obtain⟨av,d5,rfl,a7⟩:=hv;have⟨O,K⟩:=Ex (w.alloc (.cells #[.slice a vs.length cap,.slice a1 n1 c1,.slice a2 n2 c2] 58));have a4:Bl w O:=by rw[K];exact(bJ _ _).alloc (nR _) _
 have hs1:O.1.size=w.1.size+1:=by rw[K];simp
 have V:Hh (Bl w (O.alloc (.cells #[] 3))/\(O.alloc (.cells #[] 3)).ownsRow w.1.size 3 1 (sZ (w.1.size+1) 0 0 0) 0 []/\(O.alloc (.cells #[] 3)).1[w.1.size]?=some (.cells #[.slice a vs.length cap,.slice a1 n1 c1,.slice a2 n2 c2] 58 (0,0))):=ay (by
  refine⟨a4.alloc a4.size _,?_,(eL Oo).trans (by rw[K];exact eO)⟩;have:=oM O (e:=3) (size:=1) (base:=w.1.size) #[] 0 Oo Dd rfl;rw[hs1]at this;exact this)
 have HC:Hh (∀W,Bl w W->∀j,j<vars.length->∃b o,av=some (az b o)/\aC W b (o+j) (ai (vars.getD j 0))):=ay λW hW j hj=>by
  rcases a7 with h0|⟨b,o,rfl,h⟩;omega;exact⟨b,o,rfl,(hW.cell (bL w _ (h j hj))).trans (h j hj)⟩
 have HP:Hh (∀j,j<vars.length->(qQ vs (vars.take (j+1)) row).map ai=(qQ vs (vars.take j) row).map ai++[ai (vlF vs row (vars.getD j 0))]):=ay λj hj=>by
  unfold qQ;rw[tA,gE hj,gD,gE hj,mA,mA];rfl
 have a9:Hh ((qQ vs (vars.take 0) row).map ai=[]):=ay rfl;have b1:Hh (qQ vs (vars.take vars.length) row=qQ vs vars row):=ay (by rw[tL]);rw[vZ];clear a7 a4 a6 hl;have⟨n,hn⟩:=Ex vars.length;rw[<-hn]at HC HP b1 hlv |-;clear hn;generalize vs.length=nv,row.length=nr at *;go_enter func100,ntmps100;go_upto_region 1 with fail;rw[<-K];clear K;go_wp2_with fail;generalize O.alloc (.cells #[] 3)=W2 at *;go_loopw [7,13] (λu t wr=>∃(j:Nat) (vo:Value),j<=n/\t=ai j/\vo=u/\Hh (Bl w wr/\wr.ownsRow w.1.size 3 1 vo j ((qQ vs (vars.take j) row).map ai)/\wr.1[w.1.size]?=some (.cells #[.slice a nv cap,.slice a1 n1 c1,.slice a2 n2 c2] 58 (0,0)))) (λ_ t _=>n-(intOf t).toNat);exact⟨0,_,eC,rfl,rfl,ay ⟨V.1,by rw[a9.o];exact V.2.1,V.2.2⟩⟩;clear V a9;obtain⟨j,vo,hj,rfl,rfl,M⟩:=hrel;by_cases b7:j<n
 .have i1:=aV b7;have⟨b,o,ea,e1⟩:=HC _ M.1 j b7;subst ea;have d0:wr.cell? (az w.1.size 0)=some (.slice a nv cap):=by rw[eI M.o.2.2];rfl
  have d1:wr.cell? (az w.1.size 1)=some (.slice a1 n1 c1):=by rw[eI M.o.2.2];rfl
  have d2:wr.cell? (az w.1.size 2)=some (.slice a2 n2 c2):=by rw[eI M.o.2.2];rfl
  have b8:=ay (KV _ (vars.getD j 0) M.1);have c9:=ay (HP j b7);generalize vlF vs row (vars.getD j 0)=y,vars.getD j 0=x at *;go_wp2_with fail;apply b8.o.mn;intro w3 a3;have HN:Hh (Bl w w3/\w3.ownsRow w.1.size 3 1 vo j ((qQ vs (vars.take j) row).map ai)/\w3.1[w.1.size]?=some (.cells #[.slice a nv cap,.slice a1 n1 c1,.slice a2 n2 c2] 58 (0,0))):=ay ⟨bt M.1 a3,qB M.2.1 a3,(a3.block _ (bL wr _ d0)).trans M.2.2⟩;clear M a3 b8 d0 d1 d2 e1;have d3:=HN.1.size;go_wp2_with (at_builtin;refine wpList_append_lies _ rfl _ _ 24 rfl _ 3 _ _ 1 8 underlying24 hi b9 c7 c8 rfl Dd vo _ _ rfl (HN.o.2.1.alloc _) (az _ 0) 1 1 _ rfl rfl (qH _ _ _) (λu hu=>by simp at hu;subst hu;rfl) Dd Um Oo Sy _ rfl ?_;intro g3 cp3 w4 a5 I d6 d7);go_roundw
  case rel=>
   refine⟨j+1,_,Oo,Gg,rfl,ay ⟨(HN.o.1.alloc d3 _).grown I Sy (λq hq=>(HN.o.2.1.lt q hq).1),by rw[c9.o];exact a5,?_⟩⟩;refine((I.block _ (by simp;have:=bL w3 (az w.1.size 0) (by rw[eI HN.o.2.2];rfl);simp at this;omega) (own_ne HN.o.2.1 ⟨_,HN.o.2.2⟩ Dd)).trans (eL ?_)).trans HN.o.2.2;exact bL _ (az w.1.size 0) (by rw[eI HN.o.2.2];rfl)
  case measure=>simp[intOf];omega
 obtain rfl:j=n:=Oo;have i1:=aY j;go_wp2;go_ret;have h2:=M.2.1;rw[b1.o]at h2;exact⟨_,rfl,h2,M.1⟩
theorem zD{o}(K:(W.alloc o).grownBy w3 v.ownBlock)(hb:b<W.1.size)(I:some b≠v.ownBlock):w3.1[b]?=W.1[b]?:=
 (K.block b Sy I).trans (eL hb)
structure RQ(W:World)(B:Nat)(v:Value)(us:LV)(ls:LL):Prop where
 own:W.ownsRow B 24 1 v ls.length us
 len:us.length=ls.length
 each:∀i,i<ls.length->W.ownsRow B 3 1 (us.getD i undef) (ls.getD i []).length ((ls.getD i []).map ai)
 ap:∀i j,i<j->j<ls.length->∀g,(us.getD i undef).ownBlock=some g->(us.getD j undef).ownBlock≠some g
section
variable {W W' w3:World} {B B':Nat} {v v' u:Value} {us:LV} {ls:LL} {l:LI} {o:Obj}
theorem RQ.below(h:RQ W B v us ls)(hb:Bl W W'):RQ W' B v us ls:=⟨qB h.own hb,h.len,λi hi=>qB (h.each i hi) hb,h.ap⟩
theorem RQ.base(h:RQ W B v us ls)(hB:B'<=B):RQ W B' v us ls:=⟨qE h.own hB,h.len,λi hi=>qE (h.each i hi) hB,h.ap⟩
theorem RQ.step(h:RQ W B v us ls)(hu:W.ownsRow B 3 1 u l.length (l.map ai))(hn:∀i,i<ls.length->∀g,(us.getD i undef).ownBlock=some g->u.ownBlock≠some g)
 (I:w3.ownsRow B 24 1 v' (ls.length+1) (us++[u])) (hg:(W.alloc o).grownBy w3 v.ownBlock):RQ w3 B v' (us++[u]) (ls++[l]):=by
 have hint:∀{x:Value} {k:Nat} {xs:LV},W.ownsRow B 3 1 x k xs->w3.ownsRow B 3 1 x k xs:=λM=>
  qD M λg K=>zD hg (M.lt g K).2 (own_ne h.own (qK M K) Dd)
 have hl:=h.len;have O:∀i,i<ls.length->(us++[u]).getD i undef=us.getD i undef:=λi hi=>by rw[gD,aL Oo,<-gD]
 have e2:(us++[u]).getD ls.length undef=u:=by rw[gD,bQ Oo,show ls.length-us.length=0 by omega];rfl
 have f1:∀i,i<ls.length->(ls++[l]).getD i []=ls.getD i []:=λi hi=>by rw[gD,aL hi,<-gD]
 have f2:(ls++[l]).getD ls.length []=l:=by rw[gD,bQ eA,Nat.sub_self];rfl
 refine⟨by rw[lA];exact I,by simp[hl],λi hi=>?_,λi j V hj g=>?_⟩
 .rw[lA,lS]at hi;by_cases e:i<ls.length;rw[O i e,f1 i e];exact hint (h.each i e);obtain rfl:i=ls.length:=Oo;rw[e2,f2];exact hint hu
 rw[lA,lS]at hj;rw[O i Oo];by_cases e:j<ls.length;rw[O j e];exact h.ap i j V e g;obtain rfl:j=ls.length:=Oo;rw[e2];exact hn i Oo g
theorem RQ.get(h:RQ W B v us ls)(hi:i<ls.length):∃g cap,v=sZ g 0 ls.length cap/\ls.length<=cap/\W.cell? (az g i)=some (us.getD i undef):=by
 rcases h.own.2 with ⟨-,O⟩|⟨g,cap,cur,rfl,hb',I,K,-,-,M⟩;omega;refine⟨g,cap,rfl,K,?_⟩;have hlen:=h.len;rw[eI I,gD,gE Oo,dI,<-gE (by omega:i<us.length),<-M,cL Oo,dY]
theorem RQ.rs(h:RQ W B v us ls):RS W W v us ls:=by
 refine⟨?_,h.len,λi hi=>⟨qN (h.each i hi),qIU (h.each i hi)⟩⟩;rcases h.own.2 with ⟨rfl,I⟩|⟨g,cap,cur,rfl,hb',V,I,-⟩;exact⟨none,0,by rw[I],Oo,.inl I⟩;refine⟨_,cap,rfl,I,.inr ⟨g,0,rfl,λj O=>?_⟩⟩;obtain⟨g',M,e,-,K⟩:=h.get O;simp only[vI,oI,Addr.mk.injEq]at e;obtain⟨⟨rfl,-⟩,-⟩:=e;rw[cU];exact K
end
def atP(row places:LI):LI:=places.map λp=>row.getD p.toNat 0
theorem UN row places:(atP row places).length=places.length:=by simp[atP]
theorem xZ w vr vp row places(hr:IS w vr row)(hp:IS w vp places)(c7:places.length<=1000)(a4:∀p∈places,0<=p/\p<row.length):
 Cl 91 #[vr,vp] w λe w'=>∃v,e=.returned v/\w'.ownsRow w.1.size 3 1 v (atP row places).length ((atP row places).map ai)/\Bl w w':=by
 have⟨i0,hi,a5,a6,a7⟩:=aX Tryz.infoInt;obtain⟨ar,d0,rfl,a8⟩:=hr;obtain⟨ap,d1,rfl,a9⟩:=hp;have HC:Hh (∀W,Bl w W->∀j,j<places.length->∃(b o q br oo:Nat),ap=some (az b o)/\ar=some (az br oo)/\q<row.length/\aC W b (o+j) (ai (q:Int))/\aC W br (oo+q) (ai (row.getD q 0))/\places.getD j 0=(q:Int)):=ay λW hW j M=>by
  have hm:places.getD j 0∈places:=by rw[gD,gE M];exact gM _
  obtain⟨h0,h1⟩:=a4 _ hm;have e:places.getD j 0=((places.getD j 0).toNat:Int):=Oo;rcases a9 with h2|⟨b,o,rfl,h2⟩;omega;rcases a8 with h3|⟨br,oo,rfl,h3⟩;omega;refine⟨b,o,(places.getD j 0).toNat,br,oo,rfl,rfl,Oo,?_,?_,e⟩;rw[<-e];exact(hW.cell (bL w _ (h2 j M))).trans (h2 j M);exact(hW.cell (bL w _ (h3 _ Oo))).trans (h3 _ Oo)
 have HP:Hh (∀j q,j<places.length->places.getD j 0=((q:Nat):Int)->(atP row (places.take (j+1))).map ai=(atP row (places.take j)).map ai++[ai (row.getD q 0)]):=ay λj q M e=>by
  unfold atP;rw[tA,gE M,mA,mA];rw[gD,gE M]at e;simp only[dI]at e;simp[e]
 have b1:Hh ((atP row (places.take 0)).map ai=[]):=ay rfl;have b7:Hh (atP row (places.take places.length)=atP row places):=ay (by rw[tL]);rw[UN];clear a8 a9 a4;obtain⟨n,hn⟩:=Ex places.length;obtain⟨nr,b8⟩:=Ex row.length;rw[<-hn]at HC HP b7 c7 |-;rw[<-b8]at HC |-;clear hn b8;go_enter func91,ntmps91;go_wp2_with (at_make;refine wpList_make_own _ rfl _ _ 24 rfl _ 3 _ _ 1 underlying24 hi a5 a6 _ _ _ n rfl rfl rfl ?b2 ?b3 eA ?_)
 case b2=>rw[a7];omega
 case b3=>unfold maxLen;omega
 intro w0 K I;have V:Hh (w0.ownsRow w.1.size 3 1 (sZ w.1.size 0 0 n) 0 []/\Bl w w0):=ay ⟨K,eB.grown I eA (λj M=>by cases M)⟩;clear I K;go_wp2;go_loopw [5,13] (λu t wr=>∃(j:Nat) (vo:Value),j<=n/\t=ai j/\vo=u/\Hh (wr.ownsRow w.1.size 3 1 vo j ((atP row (places.take j)).map ai)/\Bl w wr)) (λ_ t _=>n-(intOf t).toNat);exact⟨0,_,eC,rfl,rfl,ay ⟨by rw[b1.o];exact V.1,V.2⟩⟩;clear V b1;obtain⟨j,vo,M,rfl,rfl,HT⟩:=hrel;by_cases b9:j<n
 .have i1:=aV b9;obtain⟨b,o,q,br,oo,ea,eb,hq,e1,e2,e3⟩:=HC _ HT.2 j b9;subst ea eb;have i2:(q:Int)<nr:=Oo;have c8:=ay (HP j q b9 e3);have c9:=HT.2.size;clear e3;generalize row.getD q 0=y at *;go_wp2_with (at_builtin;refine wpList_append_lies _ rfl _ _ 24 rfl _ 3 _ _ 1 8 underlying24 hi a5 a6 a7 rfl Dd vo _ _ rfl (HT.o.1.alloc _) (az _ 0) 1 1 _ rfl rfl (qH _ _ _) (λu hu=>by simp at hu;subst hu;rfl) Dd Um Oo Sy _ rfl ?_;intro g3 cp3 w4 a3 O d2 d3);go_roundw;exact⟨j+1,_,Oo,Gg,rfl,ay ⟨by rw[c8.o];exact a3,(HT.2.alloc c9 _).grown O Sy (λq hq=>(HT.1.lt q hq).1)⟩⟩;exact Im
 obtain rfl:j=n:=Oo;have i1:=aY j;go_wp2;go_ret;have h2:=HT.1;rw[b7.o]at h2;exact⟨_,rfl,h2,HT.2⟩
structure TR(W:World)(B:Nat)(D:LI->Prop)(N0 N1:LI->LI)(f:LI->Nat)(g0 g1:LI->Value):Prop where
 blk:∀p,D p->W.1[f p]?=some (.cells #[g0 p,g1 p] 228 (0,0))
 low:∀p,D p->B<=f p
 o0:∀p,D p->W.ownsRow B 3 1 (g0 p) (N0 p).length ((N0 p).map ai)
 o1:∀p,D p->W.ownsRow B 181 1 (g1 p) (N1 p).length ((N1 p).map λx=>.pointer (some (az (f (p++[x])) 0)))
 inj:∀p q,D p->D q->f p=f q->p=q
 a0:∀p q,D p->D q->p≠q->∀g,(g0 p).ownBlock=some g->(g0 q).ownBlock≠some g
 a1:∀p q,D p->D q->p≠q->∀g,(g1 p).ownBlock=some g->(g1 q).ownBlock≠some g
section
variable {W W' w1:World} {B:Nat} {D:LI->Prop} {N0 N1:LI->LI} {f:LI->Nat} {g0 g1:LI->Value} {p0:LI} {x:Int} {v':Value} {o:Obj}
theorem TR.lt(h:TR W B D N0 N1 f g0 g1)(K:D p):f p<W.1.size:=by
 rcases dL (f p) W.1.size with I|I;exact I;have:=h.blk p K;rw[dO I]at this;cases this
theorem TR.typ(h:TR W B D N0 N1 f g0 g1)(I:D p):∃cur,W.1[f p]?=some (.cells cur 228 (0,0)):=⟨_,h.blk p I⟩
theorem TR.below(h:TR W B D N0 N1 f g0 g1)(hb:Bl W W'):TR W' B D N0 N1 f g0 g1:=
 ⟨λp I=>(hb.block _ (h.lt I)).trans (h.blk p I),h.low,λp I=>qB (h.o0 p I) hb,λp I=>qB (h.o1 p I) hb,h.inj,h.a0,h.a1⟩
theorem TR.c0(h:TR W B D N0 N1 f g0 g1)(I:D p):W.cell? (az (f p) 0)=some (g0 p):=by rw[eI (h.blk p I)];rfl
theorem TR.c1(h:TR W B D N0 N1 f g0 g1)(I:D p):W.cell? (az (f p) 1)=some (g1 p):=by rw[eI (h.blk p I)];rfl
theorem TR.kept0(h:TR W B D N0 N1 f g0 g1)(I:D p0)(M:(W.alloc o).grownBy w1 (g0 p0).ownBlock)(K:D p):w1.1[f p]?=some (.cells #[g0 p,g1 p] 228 (0,0)):=
 (zD M (h.lt K) (own_ne (h.o0 _ I) (h.typ K) Dd)).trans (h.blk p K)
theorem J3{K}(M:((W.alloc K).alloc o).grownBy w1 (g1 p0).ownBlock)(hb:b<W.1.size)(I:some b≠(g1 p0).ownBlock):w1.1[b]?=W.1[b]?:=
 (zD M Sy I).trans (eL hb)
def yc(g:LI->Value)(p:LI)(v:Value):LI->Value:=λq=>if q=p then v else g q
theorem TR.vals(h:TR W B D N0 N1 f g0 g1)(O:D p0)(a3:w1.ownsRow B 3 1 v' ((N0 p0).length+1) ((N0 p0).map ai++[ai x]))(hg:(W.alloc o).grownBy w1 (g0 p0).ownBlock)(a4:∀g,v'.ownBlock=some g->(g0 p0).ownBlock=some g\/W.1.size<=g):
 TR (w1.setCell (az (f p0) 0) v') B D (λq=>if q=p0 then N0 p0++[x] else N0 q) N1 f (yc g0 p0 v') g1:=by
 have far:∀b,b≠f p0->(sC w1 (f p0) 0 v').1[b]?=w1.1[b]?:=λb hb=>eG hb;have hk:=λp I=>h.kept0 (p:=p) O hg I;refine⟨λp I=>?_,h.low,λp I=>?_,λp I=>?_,h.inj,λp q I hq V g=>?_,h.a1⟩
 .by_cases e:p=p0;subst e;rw[eN (hk p I)];simp[yc];rw[far _ (λM=>e (h.inj p p0 I O M)),hk p I];simp[yc,e]
 .by_cases e:p=p0;subst e;simp only[yc,if_true,lA,lS,mA,List.map_cons,List.map_nil];exact qD a3 λg K=>far g (λM=>own_ne a3 ⟨_,hk p I⟩ Dd (by rw[<-M];exact K.symm));simp only[yc,fF e];exact qD (h.o0 p I) λg K=>(far g (λM=>own_ne (h.o0 p I) (h.typ O) Dd (by rw[<-M];exact K.symm))).trans (zD hg ((h.o0 p I).lt g K).2 (λM=>h.a0 p _ I O e g K M.symm))
 exact qD (h.o1 p I) λg K=>(far g (λM=>own_ne (h.o1 p I) (h.typ O) Dd (by rw[<-M];exact K.symm))).trans (zD hg ((h.o1 p I).lt g K).2 (own_ne (h.o0 _ O) (qK (h.o1 p I) K) Dd));unfold yc;by_cases e:p=p0
 .subst e;rw[fE rfl,fF (λM=>V M.symm)];intro h1 h2;rcases a4 g h1 with h3|h3;exact h.a0 p q I hq V g h3 h2;have:=((h.o0 q hq).lt g h2).2;omega
 rw[fF e];by_cases M:q=p0
 .subst M;rw[fE rfl];intro h1 h2;rcases a4 g h2 with h3|h3;exact h.a0 p q I hq V g h1 h3;have:=((h.o0 p I).lt g h1).2;omega
 rw[fF M];exact h.a0 p q I hq V g
theorem TR.belw(h:TR W B D N0 N1 f g0 g1)(O:D p0)(a9:¬D (p0++[x]))(hx:x∉N1 p0)(hB:B<=W.1.size){N0':LI->LI}(hN:∀q,D q->N0' q=N0 q)(b1:N0' (p0++[x])=[])
 (a4:w1.ownsRow B 181 1 v' ((N1 p0).length+1) (((N1 p0).map λx=>.pointer (some (az (f (p0++[x])) 0)))++[.pointer (some (az W.1.size 0))]))
 (hg:((W.alloc (.cells #[sn,sn] 228)).alloc o).grownBy w1 (g1 p0).ownBlock) (a6:∀g,v'.ownBlock=some g->(g1 p0).ownBlock=some g\/W.1.size<=g):
 TR (w1.setCell (az (f p0) 1) v') B (qGw D (p0++[x])) N0' (kX N1 p0 x) (λq=>if q=p0++[x] then W.1.size else f q) (yc g0 (p0++[x]) sn) (yc (yc g1 p0 v') (p0++[x]) sn):=by
 have far:∀b,b≠f p0->(sC w1 (f p0) 1 v').1[b]?=w1.1[b]?:=λb hb=>eG hb;have b7:=h.lt O;have a5:=λp I=>(J3 hg (h.lt I) (own_ne (h.o1 _ O) (h.typ I) Dd)).trans (h.blk p I);have a7:w1.1[W.1.size]?=some (.cells #[sn,sn] 228 (0,0)):=by
  rw[zD hg Ss (λe=>by have:=((h.o1 _ O).lt _ e.symm).2;omega)];exact eO
 have a8:p0≠p0++[x]:=λe=>Xc _ x e.symm;have K:∀p,D p->p≠p0++[x]:=λp I e=>a9 (e ▸ I);refine⟨λp I=>?_,λp I=>?_,λp I=>?_,λp I=>?_,λp q I hq e=>?_,λp q I hq a3 g=>?_,λp q I hq a3 g=>?_⟩
 .rcases I with I|rfl
  .simp only[yc,fF (K p I)];by_cases e:p=p0;subst e;rw[eN (a5 p I)];simp;rw[far _ (λV=>e (h.inj p p0 I O V)),a5 p I,fF e]
  simp only[yc,if_true];rw[far _ Oo,a7]
 .rcases I with I|rfl;simp only[fF (K p I)];exact h.low p I;simp only[if_true];exact hB
 .rcases I with I|rfl;simp only[yc,fF (K p I),hN p I];exact qD (h.o0 p I) λg M=>(far g (λV=>own_ne (h.o0 p I) (h.typ O) Dd (by rw[<-V];exact M.symm))).trans (J3 hg ((h.o0 p I).lt g M).2 (own_ne (h.o1 _ O) (qK (h.o0 p I) M) Dd));simp only[yc,if_true,b1];exact eK
 .rcases I with I|rfl
  .by_cases e:p=p0
   .subst e;have em:((N1 p++[x]).map λy=>Value.pointer (some (az (if p++[y]=p++[x] then W.1.size else f (p++[y])) 0)))=((N1 p).map λx=>.pointer (some (az (f (p++[x])) 0)))++[.pointer (some (az W.1.size 0))]:=by
     rw[mA];congr 1;refine cV λy hy=>?_;rw[fF (λe=>hx (by rw[<-(ZG e).2];exact hy))];simp
    simp only[yc,fF a8,if_true,kX,em,lA,lS];exact qD a4 λg M=>far g (λV=>own_ne a4 ⟨_,a5 p I⟩ Dd (by rw[<-V];exact M.symm))
   have em:((N1 p).map λy=>Value.pointer (some (az (if p++[y]=p0++[x] then W.1.size else f (p++[y])) 0)))=((N1 p).map λx=>.pointer (some (az (f (p++[x])) 0))):=
    cV λy hy=>by rw[fF (λV=>e (ZG V).1)]
   simp only[yc,fF e,fF (K p I),kX,em];exact qD (h.o1 p I) λg M=>(far g (λV=>own_ne (h.o1 p I) (h.typ O) Dd (by rw[<-V];exact M.symm))).trans (J3 hg ((h.o1 p I).lt g M).2 (λV=>h.a1 p _ I O e g M V.symm))
  simp only[yc,if_true,kX,fF (Xc p0 x)];exact eK
 .have key:∀q,D q->f q≠W.1.size:=λq hq e=>O1 (h.lt hq)
  rcases I with I|rfl
  .rcases hq with hq|rfl;simp only[fF (K p I),if_neg (K q hq)]at e;exact h.inj p q I hq e;simp only[if_neg (K p I),if_true]at e;exact absurd e (key p I)
  rcases hq with hq|rfl;simp only[if_neg (K q hq),if_true]at e;exact absurd e.symm (key q hq);rfl
 .unfold yc;rcases I with I|rfl
  .rw[fF (K p I)];rcases hq with hq|rfl;rw[fF (K q hq)];exact h.a0 p q I hq a3 g;rw[fE rfl];intro _ h2;simp[Value.ownBlock]at h2
  rw[fE rfl];intro h1;simp[Value.ownBlock]at h1
 unfold yc;rcases I with I|rfl
 .rw[fF (K p I)];rcases hq with hq|rfl
  .rw[fF (K q hq)];by_cases e:p=p0
   .subst e;rw[fE rfl,fF (λV=>a3 V.symm)];intro h1 h2;rcases a6 g h1 with h3|h3;exact h.a1 p q I hq a3 g h3 h2;have:=((h.o1 q hq).lt g h2).2;omega
   rw[fF e];by_cases V:q=p0
   .subst V;rw[fE rfl];intro h1 h2;rcases a6 g h2 with h3|h3;exact h.a1 p q I hq a3 g h1 h3;have:=((h.o1 p I).lt g h1).2;omega
   rw[fF V];exact h.a1 p q I hq a3 g
  rw[fE rfl];intro _ h2;simp[Value.ownBlock]at h2
 rw[fE rfl];intro h1;simp[Value.ownBlock]at h1
theorem TR.same(h:TR W B D N0 N1 f g0 g1){N0' I}(M:∀p,D p->N0' p=N0 p)(O:∀p,D p->I p=N1 p):TR W B D N0' I f g0 g1:=
 ⟨h.blk,h.low,λp K=>by rw[M p K];exact h.o0 p K,λp K=>by rw[O p K];exact h.o1 p K,h.inj,h.a0,h.a1⟩
theorem xg(h:W.ownsRow B e 1 v n xs)(M:j<n):∃g cap,v=sZ g 0 n cap/\W.cell? (az g j)=xs[j]?:=by
 have hl:=h.1;rcases h.2 with ⟨-,O⟩|⟨g,cap,cur,rfl,hb',I,V,-,-,K⟩;omega;refine⟨g,cap,rfl,?_⟩;rw[eI I,<-K,cL Oo,dY]
end
open Meet
structure Cq(w:World)(c o tb fb cap:Nat)(v1:Value)(l:LI)(p:Nat):Prop where
 ptr:w.cell? (az c o)=some (.pointer (some (az tb 0)))
 pl:w.cell? (az c (o+1))=some (ai p)
 fz:w.frozen? (az c (o+1))=false
 val:w.cell? (az tb 0)=some (sZ fb 0 l.length cap)
 bel:w.cell? (az tb 1)=some v1
 own:∀j,j<l.length->w.cell? (az fb j)=some (ai (l.getD j 0))
theorem Cq.drewN{p}(h:Cq w c o tb fb cap v1 l p)d:Cq (w.drewN d) c o tb fb cap v1 l p:=⟨h.ptr,h.pl,h.fz,h.val,h.bel,h.own⟩
theorem XG w{p}(h:Cq w c o tb fb cap v1 l p):
 aF 191 #[.pointer (some (az c o))] w (.bool (decide (p=l.length))) λw'=>∃d,w'=w.drewN d:=by
 have I:=h.ptr;have K:=h.pl;have M:=h.val;rw[<-Ug];generalize l.length=n at *;clear h;go_enter func191,ntmps191;go_wp2_with fail;go_quiet (fail)
 go_wp2;go_ret;exact⟨qJ (by first|rfl|simp),_,rfl⟩
theorem XH w{p}(h:Cq w c o tb fb cap v1 l p)(I:p<l.length):
 aF 192 #[.pointer (some (az c o))] w (ai (l.getD p 0)) λw'=>∃d,w'=w.drewN d:=by
 have K:=h.ptr;have M:=h.pl;have O:=h.val;have V:=h.own p I;have i1:(p:Int)<(l.length:Int):=Oo;generalize l.getD p 0=x,l.length=n at *;clear h;go_enter func192,ntmps192;go_wp2_with fail;go_quiet (fail)
 go_wp2;go_ret;exact⟨rfl,_,rfl⟩
theorem XI w{p}(h:Cq w c o tb fb cap (sZ I 0 n K) l p)(M:p<n)(O:w.cell? (az I p)=some y):
 aF 196 #[.pointer (some (az c o))] w y λw'=>∃d,w'=w.drewN d:=by
 have V:=h.ptr;have h2:=h.pl;have h3:=h.bel;have i1:=aV M;clear h;go_enter func196,ntmps196;go_wp2_with fail;go_quiet (fail)
 go_wp2;go_ret;exact⟨rfl,_,rfl⟩
theorem Cq.is_from{p}(h:Cq w c o tb fb k v1 l p)(K:p<l.length)cap:IS w (sZ fb p (l.length-p) cap) (l.drop p):=by
 refine⟨_,cap,by rw[dP],.inr ⟨fb,p,rfl,λj I=>?_⟩⟩;rw[dP]at I;rw[h.own (p+j) Oo,gD,gD,List.getElem?_drop]
theorem Xz w o l p g(h:Cq w c o tb fb cap v1 l p)(hl:l.length<=1099511627776)(M:l.length<=cap)(I:p<l.length)(K:Asc l):
 Cl 190 #[.pointer (some (az c o)),ai g] w λe w'=>(∃v,e=.returned v)/\∃d,w'=(w.drewN d).setCell (az c (o+1)) (ai (p+bsQ (l.drop p) g:Nat)):=by
 have V:=h.ptr;have h2:=h.pl;have h3:=h.val;have h4:=h.fz;have hq:=(ZF (Vv K p) g).1;rw[dP]at hq;have O:=ay (λq cap=>
  ZO _ g ((h.drewN q).is_from I cap) (by rw[dP];omega) (Vv K p))
 have i1:(p:Int)<=(l.length:Int):=Oo;generalize bsQ (l.drop p) g=k,bsF (l.drop p) g=kf,l.length=n at *;clear h K;go_enter func190,ntmps190;go_wp2_with fail;go_quiet ((go_at_call 155;exact Calls.quiet_of (O _ _)))
 go_wp2;go_end0
 exact⟨⟨_,rfl⟩,_,by rw[Int.natCast_add]⟩
theorem jP(h:l.Pairwise (·< ·)):Asc l:=λi j I K=>by
 have:=List.pairwise_iff_getElem.1 h i j Oo K I;rw[gD,gD,gE Oo,gE K];exact this
theorem XJ(I:Asc l)(M:x∈l):bsQ l x<l.length/\l.getD (bsQ l x) 0=x:=by
 have⟨h1,O,V⟩:=ZF (jM I) x;have⟨j,K,e⟩:=gO M;have ej:l.getD j 0=x:=by rw[gD,gE K,e];rfl
 have hq:bsQ l x<=j:=by
  rcases dL j (bsQ l x)with h|h;have:=O j h;omega;exact h
 refine⟨Oo,?_⟩;have h4:=V _ eA Oo;have h5:=jM I _ j hq K;omega
theorem qDC(I:x∉l)(h:bsQ l x<l.length):l.getD (bsQ l x) 0≠x:=λe=>I (by
 rw[<-e,gD,gE h];exact gM _)
end Go.Proofs.YtnpgdnaeghilhaaGreat
