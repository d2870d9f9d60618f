import Derived.Test.YtcnfapnfmnolbaaGreatRq05
set_option maxHeartbeats 40000000
set_option maxRecDepth 1000000
namespace Go.Proofs.YtcnfapnfmnolbaaGreat
variable {x y:Int}{p q r s:LI}{a b l ls:LL}{L g j:Nat}{w:World}
theorem zt:∀a:LI,qE a a=0
 |[]=>rfl
 |x::a=>by simp[qE,zt a]
theorem yD:∀{a b:LI},qE a b=0->a=b
 |[],[],_=>rfl
 |[],_::_,h=>by simp[qE]at h
 |_::_,[],h=>by simp[qE]at h
 |x::a,y::b,h=>by
  simp only[qE]at h;split at h;omega;split at h;omega;rw[yD h,show x=y by omega]
theorem uK:∀a b:LI,qE b a=- qE a b
 |[],[]=>rfl
 |[],_::_=>rfl
 |_::_,[]=>rfl
 |x::a,y::b=>by
  simp only[qE];by_cases I:x<y;rw[if_neg Oo,if_pos I,if_pos I];rfl;by_cases K:y<x;rw[if_pos K,if_neg I,if_pos K];rw[if_neg K,if_neg I,if_neg I,if_neg K];exact uK a b
theorem xE:∀{a b c:LI},qE a b<0->qE b c<0->qE a c<0
 |[],[],_,h,_=>by simp[qE]at h
 |[],_::_,[],_,h=>by simp[qE]at h
 |[],_::_,_::_,_,_=>by simp[qE]
 |_::_,[],_,h,_=>by simp[qE]at h
 |_::_,_::_,[],_,h=>by simp[qE]at h
 |x::a,y::b,z::c,h1,h2=>by
  simp only[qE]at h1 h2 ⊢;by_cases O:x<y
  ·by_cases I:y<z;rw[if_pos Oo];decide;rw[if_neg I]at h2;by_cases K:z<y;rw[if_pos K]at h2;omega;rw[if_pos Oo];decide
  rw[if_neg O]at h1;by_cases I:y<x;rw[if_pos I]at h1;omega;rw[if_neg I]at h1;by_cases K:y<z;rw[if_pos Oo];decide;rw[if_neg K]at h2;by_cases M:z<y;rw[if_pos M]at h2;omega;rw[if_neg M]at h2;rw[if_neg Oo,if_neg Oo];exact xE h1 h2
def SL(l:LL):Prop:=l.Pairwise λa b=>qE a b<0
theorem SL.uniq:∀{a b:LL},SL a->SL b->(∀x,x∈a↔x∈b)->a=b
 |[],[],_,_,_=>rfl
 |[],y::b,_,_,h=>by have:=(h y).2 (List.mem_cons_self ..);cases this
 |x::a,[],_,_,h=>by have:=(h x).1 (List.mem_cons_self ..);cases this
 |x::a,y::b,ha,hb,h=>by
  unfold SL at ha hb;rw[List.pairwise_cons]at ha hb;have K:x=y:=by
   rcases List.mem_cons.1 ((h x).1 (List.mem_cons_self ..))with e|e;exact e;rcases List.mem_cons.1 ((h y).2 (List.mem_cons_self ..))with M|M;exact M.symm;have O:=hb.1 x e;have U:=ha.1 y M;have:=xE O U;rw[zt]at this;omega
  subst K;rw[SL.uniq (a:=a) (b:=b) ha.2 hb.2 λz=>?_];constructor
  ·intro I;rcases List.mem_cons.1 ((h z).1 (mC _ I))with e|e;subst e;have:=ha.1 _ I;rw[zt]at this;omega;exact e
  intro I;rcases List.mem_cons.1 ((h z).2 (mC _ I))with e|e;subst e;have:=hb.1 _ I;rw[zt]at this;omega;exact e
def mrgX(x:LI)(f:LL->LL)(c:LL):LL->LL
 |[]=>c
 |y::b=>if qE x y<0 then x::f (y::b) else if 0<qE x y then y::mrgX x f c b else x::f b
def mrg:LL->LL->LL
 |[]=>λb=>b
 |x::a=>mrgX x (mrg a) (x::a)
theorem xq(b:LL):mrg [] b=b:=rfl
theorem yA(a:LL):mrg a []=a:=by cases a <;> rfl
theorem YX{x y:LI}(h:qE x y<0):mrg (x::a) (y::b)=x::mrg a (y::b):=if_pos h
theorem YY{x y:LI}(h:0<qE x y):mrg (x::a) (y::b)=y::mrg (x::a) b:=(if_neg Oo).trans (if_pos h)
theorem YZ{x y:LI}(I:¬qE x y<0)(K:¬0<qE x y):mrg (x::a) (y::b)=x::mrg a b:=(if_neg I).trans (if_neg K)
theorem uL(z:LI):∀(n:Nat) (a b:LL),a.length+b.length<=n->(z∈mrg a b↔z∈a∨z∈b)
 |n,[],b,_=>by rw[xq];simp
 |n,x::a,[],_=>by rw[yA];simp
 |n+1,x::a,y::b,h=>by
  simp only[List.length_cons]at h;by_cases I:qE x y<0;rw[YX I,List.mem_cons,uL z n a (y::b) (by simp only[List.length_cons];omega),List.mem_cons,List.mem_cons,or_assoc];by_cases K:0<qE x y
  ·rw[YY K,List.mem_cons,uL z n (x::a) b (by simp only[List.length_cons];omega),List.mem_cons,List.mem_cons];constructor
   ·rintro (h|(h|h)|h);exact Or.inr (Or.inl h);exact Or.inl (Or.inl h);exact Or.inl (Or.inr h);exact Or.inr (Or.inr h)
   rintro ((h|h)|(h|h));exact Or.inr (Or.inl (Or.inl h));exact Or.inr (Or.inl (Or.inr h));exact Or.inl h;exact Or.inr (Or.inr h)
  have e:x=y:=yD Oo;subst e;rw[YZ I K,List.mem_cons,uL z n a b Oo,List.mem_cons,List.mem_cons];constructor
  ·rintro (h|h|h);exact Or.inl (Or.inl h);exact Or.inl (Or.inr h);exact Or.inr (Or.inr h)
  rintro ((h|h)|(h|h));exact Or.inl h;exact Or.inr (Or.inl h);exact Or.inl h;exact Or.inr (Or.inr h)
 |0,x::a,y::b,h=>by simp only[List.length_cons]at h;omega
theorem SL.mrg:∀(n:Nat) (a b:LL),a.length+b.length<=n->SL a->SL b->SL (mrg a b)
 |n,[],b,_,_,hb=>by rw[xq];exact hb
 |n,x::a,[],_,ha,_=>by rw[yA];exact ha
 |0,x::a,y::b,h,_,_=>by simp only[List.length_cons]at h;omega
 |n+1,x::a,y::b,h,ha,hb=>by
  simp only[List.length_cons]at h;have I:=List.pairwise_cons.1 ha;have K:=List.pairwise_cons.1 hb;by_cases O:qE x y<0
  ·rw[YX O];refine List.pairwise_cons.2 ⟨λz M=>?_,SL.mrg n a (y::b) (by simp only[List.length_cons];omega) I.2 hb⟩;rcases (uL z _ a (y::b) (nR _)).1 M with h|h;exact I.1 z h;rcases List.mem_cons.1 h with rfl|h;exact O;exact xE O (K.1 z h)
  by_cases U:0<qE x y
  ·have V:qE y x<0:=by rw[uK];omega
   rw[YY U];refine List.pairwise_cons.2 ⟨λz M=>?_,SL.mrg n (x::a) b (by simp only[List.length_cons];omega) ha K.2⟩;rcases (uL z _ (x::a) b (nR _)).1 M with h|h
   ·rcases List.mem_cons.1 h with rfl|h;exact V;exact xE V (I.1 z h)
   exact K.1 z h
  have e:x=y:=yD Oo;subst e;rw[YZ O U];refine List.pairwise_cons.2 ⟨λz M=>?_,SL.mrg n a b Oo I.2 K.2⟩;rcases (uL z _ a b (nR _)).1 M with h|h;exact I.1 z h;exact K.1 z h
def srt:LL->LL:=WellFounded.fix (measure List.length).wf λl f=>if h:l.length<2 then l else mrg (f (l.take (l.length / 2)) (by show List.length _<List.length _;simp only[List.length_take];omega)) (f (l.drop (l.length / 2)) (by show List.length _<List.length _;simp only[List.length_drop];omega))
theorem uX(h:l.length<2):srt l=l:=by rw[srt,WellFounded.fix_eq,dif_pos h]
theorem XY(h:¬l.length<2):srt l=mrg (srt (l.take (l.length / 2))) (srt (l.drop (l.length / 2))):=by rw[srt,WellFounded.fix_eq,dif_neg h]
theorem zu:∀(n:Nat) (l:LL),l.length<=n->SL (srt l)/\∀z,z∈srt l↔z∈l
 |n,l,h=>by
  by_cases I:l.length<2
  ·rw[uX I];refine⟨?_,λz=>Iff.rfl⟩;match l,I with
   |[],_=>exact List.Pairwise.nil
   |[x],_=>exact List.pairwise_singleton _ _
  rw[XY I];match n with
  |0=>omega
  |n+1=>
   obtain⟨a1,a2⟩:=zu n (l.take (l.length / 2)) (by rw[bW];omega);obtain⟨K,b2⟩:=zu n (l.drop (l.length / 2)) (by rw[List.length_drop];omega);refine⟨SL.mrg _ _ _ (nR _) a1 K,λz=>?_⟩;rw[uL z _ _ _ (nR _),a2,b2,<-List.mem_append,tD]
theorem yi:∀(n:Nat) (a b:LL),a.length+b.length<=n->(mrg a b).length<=a.length+b.length
 |n,[],b,_=>by rw[xq];simp
 |n,x::a,[],_=>by rw[yA];simp
 |0,x::a,y::b,h=>by simp only[List.length_cons]at h;omega
 |n+1,x::a,y::b,h=>by
  simp only[List.length_cons]at h;by_cases I:qE x y<0;have:=yi n a (y::b) (by simp only[List.length_cons];omega);rw[YX I];simp only[List.length_cons]at this ⊢;omega;by_cases K:0<qE x y;have:=yi n (x::a) b (by simp only[List.length_cons];omega);rw[YY K];simp only[List.length_cons]at this ⊢;omega;have:=yi n a b Oo;rw[YZ I K];simp only[List.length_cons];omega
theorem xT:∀(n:Nat) (l:LL),l.length<=n->(srt l).length<=l.length
 |n,l,h=>by
  by_cases I:l.length<2;rw[uX I];exact nR _;rw[XY I];match n with
  |0=>omega
  |n+1=>
   have a1:=xT n (l.take (l.length / 2)) (by rw[bW];omega);have K:=xT n (l.drop (l.length / 2)) (by rw[List.length_drop];omega);have c1:=yi _ (srt (l.take (l.length / 2))) (srt (l.drop (l.length / 2))) (nR _);rw[bW]at a1;rw[List.length_drop]at K;omega
def cpt:LL->LL
 |[]=>[]
 |[x]=>[x]
 |x::y::l=>if x=y then cpt (y::l) else x::cpt (y::l)
theorem Zd(z:LI):∀l:LL,z∈cpt l↔z∈l
 |[]=>Iff.rfl
 |[x]=>Iff.rfl
 |x::y::l=>by
  rw[cpt];split
  ·rename_i e;subst e;rw[Zd z (x::l)];simp
  rw[List.mem_cons,Zd z (y::l),List.mem_cons (a:=z) (b:=x)]
theorem SL.cpt:∀l:LL,(l.Pairwise λa b=>¬qE b a<0)->SL (cpt l)
 |[],_=>List.Pairwise.nil
 |[x],_=>List.pairwise_singleton _ _
 |x::y::l,h=>by
  have I:=List.pairwise_cons.1 h;rw[Go.Proofs.YtcnfapnfmnolbaaGreat.cpt];split;exact SL.cpt (y::l) I.2;rename_i ne;refine List.pairwise_cons.2 ⟨λz M=>?_,SL.cpt (y::l) I.2⟩;rw[Zd]at M;have U:=I.1 z M;have V:=I.1 y (List.mem_cons_self ..);have hy:¬qE z y<0:=by
   rcases List.mem_cons.1 M with rfl|O;rw[zt];omega;exact(List.pairwise_cons.1 I.2).1 z O
  have K:qE x y<0:=by
   have e1:=uK x y;rcases Int.lt_trichotomy (qE x y) 0 with h|h|h;exact h;exact absurd (yD h) ne;omega
  have e2:=uK y z;rcases Int.lt_trichotomy (qE y z) 0 with h|h|h;exact xE K h;rw[<-yD h];exact K;omega
theorem qF4{I:LL}(hs:I.Pairwise λa b=>¬qE b a<0)(K:∀z,z∈I↔z∈l):cpt I=srt l:=by
 obtain⟨a,b⟩:=zu _ l (nR _);exact SL.uniq (SL.cpt I hs) a λz=>by rw[Zd,b,K]
theorem qAC(h:p++[y] <+:s):p.length<s.length/\(∀i,i<p.length->s.getD i 0=p.getD i 0)/\s.getD p.length 0=y:=by
 obtain⟨t,rfl⟩:=h;refine⟨Ss,λi hi=>?_,?_⟩;rw[gD,gD,List.append_assoc,aL hi];rw[gD,List.append_assoc,bQ (nR _),Nat.sub_self];rfl
theorem qDZ(K:p++[y] <+:s)(M:p++[x] <+:r)(h:qE s r<0):y<=x:=by
 obtain⟨a1,a2,O⟩:=qAC K;obtain⟨U,b2,b3⟩:=qAC M;rcases Int.lt_or_le x y with I|I;have:=Yi (a:=s) (b:=r) a1 U (λi hi=>by rw[a2 i hi,b2 i hi]) (by rw[O,b3];exact I);omega;exact I
theorem qAD{l:LI}{a:Int}:p <+:l++[a]↔p=l++[a]∨p <+:l:=by
 rw[List.prefix_concat_iff]
theorem qy{i:Nat}(h:i<r.length):r.take (i+1)=r.take i++[r.getD i 0]:=by
 rw[tA,gE h,gD,gE h];rfl
theorem QI(h:p++[x]=q++[y]):p=q/\x=y:=by
 have:=List.append_inj' h rfl;exact⟨this.1,by simpa using this.2⟩
structure TM(rs:LL)(D:LI->Prop)(N:LI->LI):Prop where
 dom:∀p,D p↔p=[]∨∃r∈rs,p <+:r
 mem:∀p,D p->∀x,x∈N p↔D (p++[x])
 asc:∀p,D p->(N p).Pairwise (·< ·)
theorem TM.none:TM [] (λp=>p=[]) (λ_=>[]):=
 ⟨λp=>Ss,λp _ x=>Ss,λp _=>List.Pairwise.nil⟩
theorem TM.pre{rs:LL}{D:LI->Prop}{N:LI->LI}(h:TM rs D N)(hq:D q)(K:p <+:q):D p:=by
 rw[h.dom]at hq ⊢;rcases hq with rfl|⟨r,M,I⟩;exact Or.inl (List.prefix_nil.1 K);exact Or.inr ⟨r,M,K.trans I⟩
theorem TM.root{rs:LL}{D:LI->Prop}{N:LI->LI}(h:TM rs D N):D []:=(h.dom []).2 (Or.inl rfl)
section
variable {rs:LL} {r:LI} {i:Nat} {D:LI->Prop} {N:LI->LI}
theorem TM.begin(h:TM rs D N):TM (rs++[r.take 0]) D N:=
 ⟨λp=>by
  rw[h.dom];constructor
  ·rintro (I|⟨s,hs,I⟩);exact Or.inl I;exact Or.inr ⟨s,List.mem_append_left _ hs,I⟩
  rintro (I|⟨s,hs,I⟩);exact Or.inl I;rcases List.mem_append.1 hs with K|K;exact Or.inr ⟨s,K,I⟩;simp at K;subst K;exact Or.inl (List.prefix_nil.1 I),h.mem,h.asc⟩
theorem TM.here(h:TM (rs++[r.take i]) D N):D (r.take i):=(h.dom _).2 (Or.inr ⟨r.take i,Ss,List.prefix_refl _⟩)
theorem TM.le(h:TM (rs++[r.take i]) D N)(hi:i<r.length)(hs:∀s∈rs,qE s r<0):∀y∈N (r.take i),y<=r.getD i 0:=λy O=>by
 rw[h.mem _ h.here,h.dom]at O;rcases O with I|⟨s,M,I⟩;simp at I;rcases List.mem_append.1 M with K|K;refine qDZ I (r:=r) ?_ (hs s K);rw[<-qy hi];exact List.take_prefix _ _;simp at K;subst K;have:=I.length_le;simp at this;omega
theorem qAE(h:TM (rs++[r.take i]) D N)(hi:i<r.length)(p:LI):(p=[]∨∃s∈rs++[r.take (i+1)],p <+:s)↔D p∨p=r.take i++[r.getD i 0]:=by
 rw[h.dom];constructor
 ·rintro (I|⟨s,hs,I⟩);exact Or.inl (Or.inl I);rcases List.mem_append.1 hs with K|K;exact Or.inl (Or.inr ⟨s,List.mem_append_left _ K,I⟩);simp only[List.mem_singleton]at K;subst K;rw[qy hi,qAD]at I;rcases I with I|I;exact Or.inr I;exact Or.inl (Or.inr ⟨_,List.mem_append_right _ (List.mem_singleton.2 rfl),I⟩)
 rintro ((I|⟨s,hs,I⟩)|I);exact Or.inl I
 ·rcases List.mem_append.1 hs with K|K;exact Or.inr ⟨s,List.mem_append_left _ K,I⟩;simp only[List.mem_singleton]at K;subst K;refine Or.inr ⟨r.take (i+1),List.mem_append_right _ (List.mem_singleton.2 rfl),?_⟩;rw[qy hi,qAD];exact Or.inr I
 refine Or.inr ⟨r.take (i+1),List.mem_append_right _ (List.mem_singleton.2 rfl),?_⟩;rw[qy hi,I];exact List.prefix_refl _
theorem TM.hit(h:TM (rs++[r.take i]) D N)(hi:i<r.length)(K:r.getD i 0∈N (r.take i)):TM (rs++[r.take (i+1)]) D N:=
 ⟨λp=>by
  rw[qAE h hi];constructor;exact Or.inl;rintro (I|I);exact I;rw[I];exact(h.mem _ h.here _).1 K,h.mem,h.asc⟩
def qEl(D:LI->Prop)(q:LI):LI->Prop:=λp=>D p∨p=q
def jY(N:LI->LI)(p:LI)(x:Int):LI->LI:=λq=>if q=p then N p++[x] else if q=p++[x] then [] else N q
theorem Ze(p:LI)(x:Int):p++[x]≠p:=λe=>by have:=congrArg List.length e;simp at this
theorem TM.miss(h:TM (rs++[r.take i]) D N)(hi:i<r.length)(hs:∀s∈rs,qE s r<0)(hx:r.getD i 0∉N (r.take i)):
 TM (rs++[r.take (i+1)]) (qEl D (r.take i++[r.getD i 0])) (jY N (r.take i) (r.getD i 0)):=by
 have hle:=h.le hi hs;have U:=h.here;have V:¬D (r.take i++[r.getD i 0]):=λhd=>hx ((h.mem _ U _).2 hd);have O:=qAE h hi;generalize r.take (i+1)=r1 at *;generalize r.take i=p0 at *;generalize r.getD i 0=x at *;refine⟨λp=>(O p).symm,λq hq y=>?_,λq hq=>?_⟩
 ·unfold jY qEl;by_cases M:q=p0
  ·subst M;rw[if_pos rfl,List.mem_append,List.mem_singleton,h.mem _ U];constructor
   ·rintro (I|I);exact Or.inl I;exact Or.inr (by rw[I])
   rintro (I|I);exact Or.inl I;exact Or.inr (QI I).2
  rw[if_neg M];by_cases K:q=p0++[x]
  ·subst K;rw[if_pos rfl];constructor;intro I;cases I
   rintro (I|I);exact absurd (h.pre I (List.prefix_append _ _)) V;exact absurd I (Ze _ _)
  rw[if_neg K,h.mem _ (hq.resolve_right K)];constructor;exact Or.inl;rintro (I|I);exact I;exact absurd (QI I).1 M
 unfold jY;by_cases M:q=p0
 ·subst M;rw[if_pos rfl,List.pairwise_append];refine⟨h.asc _ U,List.pairwise_singleton _ _,λy hy z hz=>?_⟩;rw[List.mem_singleton]at hz;subst hz;have:=hle y hy;rcases Int.lt_or_eq_of_le this with I|I;exact I;subst I;exact absurd hy hx
 rw[if_neg M];by_cases K:q=p0++[x];rw[if_pos K];exact List.Pairwise.nil;rw[if_neg K];exact h.asc _ (hq.resolve_right K)
theorem TM.done(h:TM (rs++[r.take r.length]) D N):TM (rs++[r]) D N:=by rw[tL]at h;exact h
end
theorem qF9{l:LI}(K:l.Pairwise (·< ·))(I:x∈l)(hle:∀y∈l,y<=x):0<l.length/\l.getD (l.length-1) 0=x:=by
 have M:0<l.length:=List.length_pos_of_mem I;refine⟨M,?_⟩;obtain⟨j,O,e⟩:=gO I;have hl:l.getD (l.length-1) 0=l[l.length-1]' Oo:=by rw[gD,gE Oo];rfl
 have V:=hle _ (gM (h:=(by omega:l.length-1<l.length)));rw[hl];by_cases U:j=l.length-1;subst U;exact e;have:=List.pairwise_iff_getElem.1 K j (l.length-1) O Oo Oo;omega
theorem qEm{l:LI}(I:x∉l)(K:0<l.length):l.getD (l.length-1) 0≠x:=λe=>I (by
 rw[<-e,gD,gE Oo];exact gM _)
theorem TM.row{rs:LL}{D:LI->Prop}{N:LI->LI}(h:TM rs D N)(hl:∀r∈rs,r.length=L)(M:rs≠[])(hq:q.length=L):D q↔q∈rs:=by
 rw[h.dom];constructor
 ·rintro (I|⟨r,K,I⟩)
  ·subst I;cases rs with
   |nil=>exact absurd rfl M
   |cons a rs=>
    have:=hl a (List.mem_cons_self ..);rw[List.length_nil]at hq;have:a=[]:=List.length_eq_zero_iff.1 Oo;rw[this];exact List.mem_cons_self ..
  have:=I.eq_of_length (by rw[hq,hl r K]);rw[this];exact K
 intro I;exact Or.inr ⟨q,I,List.prefix_refl _⟩
theorem TM.more{rs:LL}{D:LI->Prop}{N:LI->LI}(h:TM rs D N)(hl:∀r∈rs,r.length=L)(U:rs≠[])(hq:q.length<L)(K:D q):0<(N q).length:=by
 have key:∃r∈rs,q <+:r:=by
  rcases (h.dom q).1 K with I|I
  ·subst I;cases rs with
   |nil=>exact absurd rfl U
   |cons a rs=>exact⟨a,List.mem_cons_self ..,List.nil_prefix⟩
  exact I
 obtain⟨r,M,t,rfl⟩:=key;have O:=hl _ M;rw[lA]at O;cases t with
 |nil=>simp at O;omega
 |cons x t=>exact List.length_pos_of_mem ((h.mem q K x).2 ((h.dom _).2 (Or.inr ⟨_,M,by rw[show q++x::t=(q++[x])++t by simp];exact List.prefix_append _ _⟩)))
structure Sd where
 H:Nat->Bool
 rs:LL
 N:LI->LI
def Sd.D(s:Sd)(p:LI):Prop:=p=[]∨∃r∈s.rs,p <+:r
structure Sd.Ok(s:Sd):Prop where
 tm:TM s.rs s.D s.N
def prt(H:Nat->Bool)(p:LI):LI:=((List.range p.length).filter H).map λi=>p.getD i 0
theorem jO(H:Nat->Bool)(p:LI)(v:Int):prt H (p++[v])=prt H p++(if H p.length then [v] else []):=by
 unfold prt;rw[lA,lS,List.range_succ,List.filter_append,mA];congr 1;refine List.map_congr_left λi hi=>?_;have I:=List.mem_range.1 ((List.mem_filter.1 hi).1);rw[gD,aL I,<-gD];by_cases h:H p.length;rw[if_pos h,List.filter_cons,if_pos h];simp[List.getD_eq_getElem?_getD];rw[if_neg h,List.filter_cons,if_neg h];rfl
def Hld(sds:List Sd)(p:LI):Prop:=∀s∈sds,s.D (prt s.H p)
def qD4(sds:List Sd)(p:LI)(v:Int):Bool:=sds.all λs=>!s.H p.length||decide (v∈s.N (prt s.H p))
theorem jP(I:List Sd)(p:LI)(v:Int):qD4 I p v=true↔∀s∈I,s.H p.length=true->v∈s.N (prt s.H p):=by
 unfold qD4;rw[aT];refine⟨λh s hs K=>?_,λh s hs=>?_⟩;have:=h s hs;rw[K]at this;simpa using this;cases K:s.H p.length
 rfl;simpa using h s hs K
theorem XF:∀{a b:LI},a.Pairwise (·< ·)->b.Pairwise (·< ·)->(∀v,v∈a↔v∈b)->a=b
 |[],[],_,_,_=>rfl
 |[],y::b,_,_,h=>by have:=(h y).2 List.mem_cons_self;cases this
 |x::a,[],_,_,h=>by have:=(h x).1 List.mem_cons_self;cases this
 |x::a,y::b,ha,hb,h=>by
  rw[List.pairwise_cons]at ha hb;have M:x=y:=by
   have I:=(h x).1 List.mem_cons_self;have K:=(h y).2 List.mem_cons_self;rw[List.mem_cons]at I K;rcases I with I|I;exact I;rcases K with K|K;exact K.symm;have:=hb.1 x I;have:=ha.1 y K;omega
  subst M;rw[XF ha.2 hb.2 λv=>?_];have:=h v;rw[List.mem_cons,List.mem_cons]at this;constructor
  ·intro hv;rcases this.1 (Or.inr hv)with rfl|I;have:=ha.1 v hv;omega;exact I
  intro hv;rcases this.2 (Or.inr hv)with rfl|I;have:=hb.1 v hv;omega;exact I
def vN(sds:List Sd)(g:Sd)(p:LI):LI:=(g.N (prt g.H p)).filter λv=>qD4 sds p v
theorem qBt{I:List Sd}(K:∀s∈I,s.Ok){g f:Sd}(M:g∈I)(O:f∈I)(U:Hld I p)(V:g.H p.length=true)(h2:f.H p.length=true):vN I g p=vN I f p:=by
 refine XF ((((K g M).tm.asc _ (U g M))).filter _) ((((K f O).tm.asc _ (U f O))).filter _) λv=>?_;unfold vN;rw[List.mem_filter,List.mem_filter];constructor;rintro⟨-,h⟩;exact⟨(jP I p v).1 h f O h2,h⟩;rintro⟨-,h⟩;exact⟨(jP I p v).1 h g M V,h⟩
def xf(sds:List Sd)(p:LI):LI:=
 match sds.find? λs=>s.H p.length with
 |some f=>vN sds f p
 |none=>[]
theorem ZS{I:List Sd}(K:∀s∈I,s.Ok){g:Sd}(M:g∈I)(U:Hld I p)(O:g.H p.length=true):xf I p=vN I g p:=by
 unfold xf;cases hf:I.find? (λs=>s.H p.length)with
 |none=>
  rw[List.find?_eq_none]at hf;exact absurd O (hf g M)
 |some f=>
  exact qBt K (List.mem_of_find?_eq_some hf) M U (by have:=List.find?_some hf;exact this) O
theorem qD5{I:List Sd}(K:∀s∈I,s.Ok)(M:Hld I p):(xf I p).Pairwise (·< ·):=by
 unfold xf;cases hf:I.find? (λs=>s.H p.length)with
 |none=>exact List.Pairwise.nil
 |some f=>exact((K f (List.mem_of_find?_eq_some hf)).tm.asc _ (M f (List.mem_of_find?_eq_some hf))).filter _
theorem Hld.snoc{I:List Sd}(K:∀s∈I,s.Ok)(M:Hld I p){v:Int}(hv:v∈xf I p):Hld I (p++[v]):=λs hs=>by
 rw[jO];cases hH:s.H p.length
 rw[if_neg Dd,List.append_nil];exact M s hs;rw[if_pos rfl];rw[ZS K hs M hH]at hv;unfold vN at hv;exact((K s hs).tm.mem _ (M s hs) v).1 ((List.mem_filter.1 hv).1)
theorem XG{I:List Sd}(K:∀s∈I,s.Ok){p:LI}(M:Hld I p):∀j,∀q∈yP (xf I) p j,Hld I q
 |0,q,h=>by simp[yP]at h;rw[h];exact M
 |j+1,q,h=>by
  simp only[yP,List.mem_flatMap,List.mem_map]at h;obtain⟨r,O,v,hv,rfl⟩:=h;exact(XG K M j r O).snoc K hv
theorem jM(x y:LI)(l:LL):cpt (x::y::l)=if x=y then cpt (y::l) else x::cpt (y::l):=by rw[cpt]
theorem Xu(x:LI):cpt [x]=[x]:=by rw[cpt]
theorem kc:∀(l:LL) (y z:LI),cpt (l++[y,z])=if y=z then cpt (l++[y]) else cpt (l++[y])++[z]
 |[],y,z=>by
  show cpt [y,z]=if y=z then cpt [y] else cpt [y]++[z]
  rw[jM,Xu,Xu];by_cases h:y=z;rw[if_pos h,if_pos h,h];rw[if_neg h,if_neg h];rfl
 |[x],y,z=>by
  have M:cpt [y,z]=if y=z then cpt [y] else cpt [y]++[z]:=kc [] y z
  show cpt (x::y::[z])=if y=z then cpt [x,y] else cpt [x,y]++[z]
  rw[jM x y [z],M,jM x y []];by_cases I:x=y;rw[if_pos I,if_pos I];rw[if_neg I,if_neg I];by_cases K:y=z;rw[if_pos K,if_pos K];rw[if_neg K,if_neg K];rfl
 |x::a::l,y,z=>by
  have M:cpt (a::(l++[y,z]))=if y=z then cpt (a::(l++[y])) else cpt (a::(l++[y]))++[z]:=kc (a::l) y z
  show cpt (x::a::(l++[y,z]))=if y=z then cpt (x::a::(l++[y])) else cpt (x::a::(l++[y]))++[z]
  rw[jM,M,jM];by_cases I:x=a;rw[if_pos I,if_pos I];rw[if_neg I,if_neg I];by_cases K:y=z;rw[if_pos K,if_pos K];rw[if_neg K,if_neg K];rfl
theorem XA(I:j+1<ls.length):ls.take (j+2)=ls.take j++[ls.getD j [],ls.getD (j+1) []]/\ls.take (j+1)=ls.take j++[ls.getD j []]:=by
 have M:ls.getD j []=ls[j]:=by rw[gD,gE Oo];rfl
 have O:ls.getD (j+1) []=ls[j+1]:=by rw[gD,gE I];rfl
 rw[M,O];have K:ls.take (j+1)=ls.take j++[ls[j]]:=(List.take_append_getElem Oo).symm;have U:ls.take (j+2)=ls.take (j+1)++[ls[j+1]]:=(List.take_append_getElem I).symm;exact⟨by rw[U,K,List.append_assoc];rfl,K⟩
theorem qA1(I:j+1<ls.length)(h:ls.getD j []=ls.getD (j+1) []):cpt (ls.take (j+2))=cpt (ls.take (j+1)):=by
 obtain⟨a,b⟩:=XA I;rw[a,b,kc,if_pos h]
theorem JE(I:j+1<ls.length)(h:¬ls.getD j []=ls.getD (j+1) []):cpt (ls.take (j+2))=cpt (ls.take (j+1))++[ls.getD (j+1) []]:=by
 obtain⟨a,b⟩:=XA I;rw[a,b,kc,if_neg h]
theorem Yq{ls:LL}:∀j,j<ls.length->(∀i,i<j->¬ls.getD i []=ls.getD (i+1) [])->cpt (ls.take (j+1))=ls.take (j+1)
 |0,h,_=>by
  match ls,h with
  |x::l,_=>rfl
 |j+1,h,hne=>by
  rw[JE h (hne j Oo),Yq j Oo (λi hi=>hne i Oo)];obtain⟨a,b⟩:=XA h;rw[a,b,List.append_assoc];rfl
open Go.RowKit
def Two(w:World)(g:Nat)(x y:Int):Prop:=w.cell? (az g 0)=some (ai x)/\w.cell? (az g 1)=some (ai y)/\w.frozen? (az g 0)=false/\w.frozen? (az g 1)=false
theorem Two.below{w':World}(h:Two w g x y)(I:g<w.1.size)(hb:Bl w w'):Two w' g x y:=
 ⟨(hb.cell (p:=(az g 0)) I).trans h.1,(hb.cell (p:=(az g 1)) I).trans h.2.1,(World.frozen?_of_block (w:=w) (a:=(az g 0)) (hb.block g I)).trans h.2.2.1,(World.frozen?_of_block (w:=w) (a:=(az g 1)) (hb.block g I)).trans h.2.2.2⟩
theorem Two.set{a b:Int}(h:Two w g a b)(x y:Int):Two ((w.setCell (az g 0) (ai x)).setCell (az g 1) (ai y)) g x y:=by
 have I:∀v,(w.setCell (az g 0) v).cell? (az g 1)=some (ai b):=λv=>(bC _ _ _ _ Ss).trans h.2.1;refine⟨(bC _ _ _ _ Ss).trans (bG _ _ _ h.1),bG _ _ _ (I _),?_,?_⟩;rw[fS,fS];exact h.2.2.1;rw[fS,fS];exact h.2.2.2
theorem Two.other{g':Nat}{a b:Int}(h:Two w g a b)(I:g≠g')(x y:Value):Two ((w.setCell (az g' 0) x).setCell (az g' 1) y) g a b:=by
 have ne:∀i j:Nat,((az g i):Addr)≠(az g' j):=λi j e=>by simp only[Addr.mk.injEq]at e;exact I e.1
 refine⟨?_,?_,?_,?_⟩;rw[bC _ _ _ _ (by first|exact ne _ _|exact(ne _ _).symm),bC _ _ _ _ (by first|exact ne _ _|exact(ne _ _).symm)];exact h.1;rw[bC _ _ _ _ (by first|exact ne _ _|exact(ne _ _).symm),bC _ _ _ _ (by first|exact ne _ _|exact(ne _ _).symm)];exact h.2.1;rw[fS,fS];exact h.2.2.1;rw[fS,fS];exact h.2.2.2
theorem qAl(w:World)(v:Value)(l:List (Int×Int))(h:IR w v l)(hl:l.length<=1000)(s:Nat->Int×Int)(h0:s 0=(0,1))
 (hs:∀k w,k<l.length->Cl 148 #[.agg #[ai (s k).1,ai (s k).2],.agg #[ai (l.getD k (0,0)).1,ai (l.getD k (0,0)).2]] w λe w'=>e=.returned (.agg #[ai (s (k+1)).1,ai (s (k+1)).2])/\Bl w w'):
 Cl 124 #[v] w λe w'=>e=.returned (.agg #[ai (s l.length).1,ai (s l.length).2])/\Bl w w':=by
 obtain⟨a,cap,rfl,hc⟩:=h;obtain⟨n,hn⟩:=Ex l.length;rw[<-hn]at hc hl hs ⊢;have HC:=ay hc;have HS:=ay hs;have H0:=ay h0;clear hc hs hn h0;go_enter Tryz.func124,Tryz.ntmps124;go_wp2;have a4:Bl w ((w.alloc (.cells #[ai 0,ai 0] 36)).alloc (.cells #[ai 0,ai 1] 36)):=(aK).alloc Ss _;have t1:Two ((w.alloc (.cells #[ai 0,ai 0] 36)).alloc (.cells #[ai 0,ai 1] 36)) w.1.size 0 0:=
  ⟨by rw[World.cell?_alloc_past _ _ _ Ss,bE _ _ _ _ rfl];rfl,by rw[World.cell?_alloc_past _ _ _ Ss,bE _ _ _ _ rfl];rfl,by rw[World.frozen?_alloc_past _ _ _ Ss,World.frozen?_alloc_at _ _ _ _ rfl],by rw[World.frozen?_alloc_past _ _ _ Ss,World.frozen?_alloc_at _ _ _ _ rfl]⟩
 have t2:Two ((w.alloc (.cells #[ai 0,ai 0] 36)).alloc (.cells #[ai 0,ai 1] 36)) (w.1.size+1) 0 1:=
  ⟨by rw[bE _ _ _ _ Ss];rfl,by rw[bE _ _ _ _ Ss];rfl,World.frozen?_alloc_at _ _ _ _ Ss,World.frozen?_alloc_at _ _ _ _ Ss⟩
 have T1:=ay t1;have T2:=ay t2;have a5:=ay a4;clear t1 t2 a4;go_loopw [9] (λt wr=>∃k:Nat,k<=n/\t=ai k/\w.1.size+1<wr.1.size/\Hh (Bl w wr/\Two wr w.1.size 0 0/\Two wr (w.1.size+1) (s k).1 (s k).2)) (λt _=>n-(intOf t).toNat);exact⟨0,nZ _,rfl,Ss,ay ⟨a5.o,T1.o,by rw[H0.o];exact T2.o⟩⟩;clear T1 T2 a5;obtain⟨k,hk,rfl,b0,hH⟩:=hrel;by_cases a6:k<n
 ·have i1:(k:Int)<(n:Int):=Oo;rcases HC.o with h0|⟨b,o,rfl,O⟩;omega;obtain⟨M,I,K⟩:=hH.o;obtain⟨d1,d2⟩:=O k a6;have c1:=(M.cell (p:=(az b (o+k*2))) (bL w _ d1)).trans d1;have c2:=(M.cell (p:=(az b (o+k*2+1))) (bL w _ d2)).trans d2;have HK:Hh (∀w,_):=ay (λw=>HS.o k w a6);have a7:∀ob,Bl wr (wr.alloc ob):=λob=>(bJ _ _).alloc (nR _) ob;have c3:=K.1;have c4:=K.2.1;have HH:=ay (And.intro M (And.intro I K));have a9:=ay a7;clear O d1 d2 M I K hH a7;generalize (l.getD k (0,0)).1=x at *;generalize (l.getD k (0,0)).2=y at *;obtain⟨x2,V⟩:=Ex ((s (k+1)).1);obtain⟨y2,a3⟩:=Ex ((s (k+1)).2);rw[<-V,<-a3]at HK;have HX:=ay V;have HY:=ay a3;clear V a3;go_wp2_with (first|(go_at_call 148;refine(HK.o _).mono ?_;rintro e w2 ⟨rfl,a8⟩;have U:=bt (a9.o _) a8;have q1:=HH.o.2.1.below Oo U;have q2:=HH.o.2.2.below Oo U;have q3:=bt HH.o.1 U;have q4:=U.size;have e1:=q2.1;have e2:=q2.2.1;have e3:=q2.2.2.1;have e4:=q2.2.2.2;have HQ:=ay (And.intro q1 (And.intro q2 q3));clear a8 U q1 q2 q3));go_roundw;exact⟨k+1,Oo,Gg,by simp[World.setCell];omega,ay ⟨(HQ.o.2.2.setCell (by show w.1.size<=w.1.size+1;omega) _).setCell (by show w.1.size<=w.1.size+1;omega) _,HQ.o.1.other Oo _ _,by rw[<-HX.o,<-HY.o];exact HQ.o.2.1.set _ _⟩⟩;exact Im
 obtain rfl:k=n:=Oo;have i1:¬((k:Int)<(k:Int)):=Oo;obtain⟨M,I,K⟩:=hH.o;have c1:=I.1;have c2:=I.2.1;have c3:=I.2.2.1;have c4:=I.2.2.2;have e1:=K.1;have e2:=K.2.1;obtain⟨x,hx⟩:=Ex ((s k).1);obtain⟨y,hy⟩:=Ex ((s k).2);rw[<-hx]at e1;rw[<-hy]at e2;have HX:=ay hx;have HY:=ay hy;have HQ:=ay (And.intro M (I.set x y));clear hH I K hx hy M;go_wp2;have r1:=HQ.o.2.1;have r2:=HQ.o.2.2.1;refine bodyPost_ret (v:=.agg #[ai x,ai y]) (by simp[results,Tryz.results124,go_sem,r1,r2]) rfl ⟨by rw[HX.o,HY.o],(HQ.o.1.setCell (nR _) _).setCell (nR _) _⟩
theorem qAm(w:World)(v:Value)(l:List (Int×Int))(h:IR w v l)(hl:l.length<=1000)(s:Nat->Int×Int)(h0:s 0=(0,1))
 (hs:∀k w,k<l.length->Cl 165 #[.agg #[ai (s k).1,ai (s k).2],.agg #[ai (l.getD k (0,0)).1,ai (l.getD k (0,0)).2]] w λe w'=>e=.returned (.agg #[ai (s (k+1)).1,ai (s (k+1)).2])/\Bl w w'):
 Cl 141 #[v] w λe w'=>e=.returned (.agg #[ai (s l.length).1,ai (s l.length).2])/\Bl w w':=by
 obtain⟨a,cap,rfl,hc⟩:=h;obtain⟨n,hn⟩:=Ex l.length;rw[<-hn]at hc hl hs ⊢;have HC:=ay hc;have HS:=ay hs;have H0:=ay h0;clear hc hs hn h0;go_enter Tryz.func141,Tryz.ntmps141;go_wp2;have a4:Bl w ((w.alloc (.cells #[ai 0,ai 0] 36)).alloc (.cells #[ai 0,ai 1] 36)):=(aK).alloc Ss _;have t1:Two ((w.alloc (.cells #[ai 0,ai 0] 36)).alloc (.cells #[ai 0,ai 1] 36)) w.1.size 0 0:=
  ⟨by rw[World.cell?_alloc_past _ _ _ Ss,bE _ _ _ _ rfl];rfl,by rw[World.cell?_alloc_past _ _ _ Ss,bE _ _ _ _ rfl];rfl,by rw[World.frozen?_alloc_past _ _ _ Ss,World.frozen?_alloc_at _ _ _ _ rfl],by rw[World.frozen?_alloc_past _ _ _ Ss,World.frozen?_alloc_at _ _ _ _ rfl]⟩
 have t2:Two ((w.alloc (.cells #[ai 0,ai 0] 36)).alloc (.cells #[ai 0,ai 1] 36)) (w.1.size+1) 0 1:=
  ⟨by rw[bE _ _ _ _ Ss];rfl,by rw[bE _ _ _ _ Ss];rfl,World.frozen?_alloc_at _ _ _ _ Ss,World.frozen?_alloc_at _ _ _ _ Ss⟩
 have T1:=ay t1;have T2:=ay t2;have a5:=ay a4;clear t1 t2 a4;go_loopw [9] (λt wr=>∃k:Nat,k<=n/\t=ai k/\w.1.size+1<wr.1.size/\Hh (Bl w wr/\Two wr w.1.size 0 0/\Two wr (w.1.size+1) (s k).1 (s k).2)) (λt _=>n-(intOf t).toNat);exact⟨0,nZ _,rfl,Ss,ay ⟨a5.o,T1.o,by rw[H0.o];exact T2.o⟩⟩;clear T1 T2 a5;obtain⟨k,hk,rfl,b0,hH⟩:=hrel;by_cases a6:k<n
 ·have i1:(k:Int)<(n:Int):=Oo;rcases HC.o with h0|⟨b,o,rfl,O⟩;omega;obtain⟨M,I,K⟩:=hH.o;obtain⟨d1,d2⟩:=O k a6;have c1:=(M.cell (p:=(az b (o+k*2))) (bL w _ d1)).trans d1;have c2:=(M.cell (p:=(az b (o+k*2+1))) (bL w _ d2)).trans d2;have HK:Hh (∀w,_):=ay (λw=>HS.o k w a6);have a7:∀ob,Bl wr (wr.alloc ob):=λob=>(bJ _ _).alloc (nR _) ob;have c3:=K.1;have c4:=K.2.1;have HH:=ay (And.intro M (And.intro I K));have a9:=ay a7;clear O d1 d2 M I K hH a7;generalize (l.getD k (0,0)).1=x at *;generalize (l.getD k (0,0)).2=y at *;obtain⟨x2,V⟩:=Ex ((s (k+1)).1);obtain⟨y2,a3⟩:=Ex ((s (k+1)).2);rw[<-V,<-a3]at HK;have HX:=ay V;have HY:=ay a3;clear V a3;go_wp2_with (first|(go_at_call 165;refine(HK.o _).mono ?_;rintro e w2 ⟨rfl,a8⟩;have U:=bt (a9.o _) a8;have q1:=HH.o.2.1.below Oo U;have q2:=HH.o.2.2.below Oo U;have q3:=bt HH.o.1 U;have q4:=U.size;have e1:=q2.1;have e2:=q2.2.1;have e3:=q2.2.2.1;have e4:=q2.2.2.2;have HQ:=ay (And.intro q1 (And.intro q2 q3));clear a8 U q1 q2 q3));go_roundw;exact⟨k+1,Oo,Gg,by simp[World.setCell];omega,ay ⟨(HQ.o.2.2.setCell (by show w.1.size<=w.1.size+1;omega) _).setCell (by show w.1.size<=w.1.size+1;omega) _,HQ.o.1.other Oo _ _,by rw[<-HX.o,<-HY.o];exact HQ.o.2.1.set _ _⟩⟩;exact Im
 obtain rfl:k=n:=Oo;have i1:¬((k:Int)<(k:Int)):=Oo;obtain⟨M,I,K⟩:=hH.o;have c1:=I.1;have c2:=I.2.1;have c3:=I.2.2.1;have c4:=I.2.2.2;have e1:=K.1;have e2:=K.2.1;obtain⟨x,hx⟩:=Ex ((s k).1);obtain⟨y,hy⟩:=Ex ((s k).2);rw[<-hx]at e1;rw[<-hy]at e2;have HX:=ay hx;have HY:=ay hy;have HQ:=ay (And.intro M (I.set x y));clear hH I K hx hy M;go_wp2;have r1:=HQ.o.2.1;have r2:=HQ.o.2.2.1;refine bodyPost_ret (v:=.agg #[ai x,ai y]) (by simp[results,Tryz.results141,go_sem,r1,r2]) rfl ⟨by rw[HX.o,HY.o],(HQ.o.1.setCell (nR _) _).setCell (nR _) _⟩
end Go.Proofs.YtcnfapnfmnolbaaGreat
