/-
  What impl.IsFrame and impl.IsAboutStream return: gathered.
-/
import Derived.Test.YtjbppociogoopaaIFr5
import Derived.Test.YtjbppociogoopaaIFr6
